package policy_test

import (
	"math"
	"slices"
	"testing"

	"ridgeway/api"
	"ridgeway/policy"
)

func p(a, b, c, d, n int) api.Prefix {
	return api.Prefix{A: a<<24 | b<<16 | c<<8 | d, N: n}
}

// Numbers as the chapter tells them.
func TestNumbers(t *testing.T) {
	if got := []int{policy.Any, policy.Within, policy.Has, policy.Longer, policy.From}; !slices.Equal(got, []int{0, 1, 2, 3, 4}) {
		t.Error(got)
	}
	if got := []int{policy.Reject, policy.Accept, policy.Pref, policy.Prepend}; !slices.Equal(got, []int{0, 1, 2, 3}) {
		t.Error(got)
	}
}

// P10.1: each match, with an act that may be both ways.
func TestSaneMatch(t *testing.T) {
	for _, x := range []struct {
		r       api.Rule
		in, out bool
	}{
		{api.Rule{}, true, true},
		{api.Rule{V: 1}, false, false},
		{api.Rule{V: -1}, false, false},
		{api.Rule{X: p(10, 0, 0, 0, 8)}, false, false},
		{api.Rule{X: api.Prefix{N: 1}}, false, false},
		{api.Rule{Match: 1, X: p(10, 0, 0, 0, 8)}, true, true},
		{api.Rule{Match: 1}, true, true},
		{api.Rule{Match: 1, X: p(10, 0, 0, 1, 32)}, true, true},
		{api.Rule{Match: 1, X: p(10, 0, 0, 1, 8)}, false, false},
		{api.Rule{Match: 1, X: api.Prefix{N: 33}}, false, false},
		{api.Rule{Match: 1, X: api.Prefix{N: -1}}, false, false},
		{api.Rule{Match: 1, X: p(10, 0, 0, 0, 8), V: 1}, false, false},
		{api.Rule{Match: 2, V: 1}, true, true},
		{api.Rule{Match: 2, V: 1<<32 - 1}, true, true},
		{api.Rule{Match: 2}, false, false},
		{api.Rule{Match: 2, V: -1}, false, false},
		{api.Rule{Match: 2, V: 1 << 32}, false, false},
		{api.Rule{Match: 2, V: 1, X: p(10, 0, 0, 0, 8)}, false, false},
		{api.Rule{Match: 3}, true, true},
		{api.Rule{Match: 3, V: 32}, true, true},
		{api.Rule{Match: 3, V: 33}, false, false},
		{api.Rule{Match: 3, V: -1}, false, false},
		{api.Rule{Match: 3, V: 1, X: p(10, 0, 0, 0, 8)}, false, false},
		{api.Rule{Match: 4}, false, true},
		{api.Rule{Match: 4, V: 1}, false, true},
		{api.Rule{Match: 4, V: 2}, false, true},
		{api.Rule{Match: 4, V: 3}, false, true},
		{api.Rule{Match: 4, V: 4}, false, false},
		{api.Rule{Match: 4, V: -1}, false, false},
		{api.Rule{Match: 4, V: 1, X: p(10, 0, 0, 0, 8)}, false, false},
		{api.Rule{Match: 5}, false, false},
		{api.Rule{Match: -1}, false, false},
		{api.Rule{Match: math.MaxInt}, false, false},
		{api.Rule{Match: math.MinInt, V: math.MinInt}, false, false},
	} {
		if in, out := policy.Sane(x.r, true), policy.Sane(x.r, false); in != x.in || out != x.out {
			t.Errorf("Sane(%+v) = %v, %v", x.r, in, out)
		}
	}
}

// P10.1: each act.
func TestSaneAct(t *testing.T) {
	for _, x := range []struct {
		act, n  int
		in, out bool
	}{
		{0, 0, true, true}, {0, 1, false, false}, {0, -1, false, false},
		{1, 0, false, true}, {1, 1, false, false}, {1, -1, false, false},
		{2, 0, false, false}, {2, 1, true, false}, {2, 399, true, false}, {2, 400, false, false}, {2, -1, false, false},
		{3, 0, false, false}, {3, 1, false, true}, {3, 8, false, true}, {3, 9, false, false}, {3, -1, false, false},
		{4, 0, false, false}, {4, 1, false, false}, {-1, 0, false, false}, {math.MaxInt, 0, false, false}, {math.MinInt, 1, false, false},
	} {
		for _, r := range []api.Rule{{Act: x.act, N: x.n}, {Match: 2, V: 7, Act: x.act, N: x.n}, {Match: 1, X: p(10, 0, 0, 0, 8), Act: x.act, N: x.n}} {
			if in, out := policy.Sane(r, true), policy.Sane(r, false); in != x.in || out != x.out {
				t.Errorf("Sane(%+v) = %v, %v", r, in, out)
			}
		}
	}
}

// P10.1
func TestFits(t *testing.T) {
	v := api.View{X: p(10, 32, 0, 0, 11), As: []int{7, 8, 9}, Class: 2}
	for _, x := range []struct {
		r   api.Rule
		out bool
	}{
		{api.Rule{}, true},
		{api.Rule{V: 99, X: p(1, 0, 0, 0, 8)}, true},
		{api.Rule{Match: 1, X: p(10, 0, 0, 0, 8)}, true},
		{api.Rule{Match: 1, X: p(10, 32, 0, 0, 11)}, true},
		{api.Rule{Match: 1}, true},
		{api.Rule{Match: 1, X: p(10, 32, 0, 0, 12)}, false},
		{api.Rule{Match: 1, X: p(11, 0, 0, 0, 8)}, false},
		{api.Rule{Match: 1, X: p(10, 0, 0, 1, 8)}, false},
		{api.Rule{Match: 2, V: 7}, true},
		{api.Rule{Match: 2, V: 9}, true},
		{api.Rule{Match: 2, V: 10}, false},
		{api.Rule{Match: 2, V: 0}, false},
		{api.Rule{Match: 3, V: 2}, true},
		{api.Rule{Match: 3, V: 3}, false},
		{api.Rule{Match: 3, V: 4}, false},
		{api.Rule{Match: 3, V: -1}, true},
		{api.Rule{Match: 4, V: 2}, true},
		{api.Rule{Match: 4, V: 1}, false},
		{api.Rule{Match: 4, V: 3}, false},
		{api.Rule{Match: 5, V: 2}, false},
		{api.Rule{Match: -1}, false},
		{api.Rule{Match: math.MaxInt}, false},
		{api.Rule{Match: math.MinInt}, false},
	} {
		if got := policy.Fits(x.r, v); got != x.out {
			t.Errorf("Fits(%+v) = %v", x.r, got)
		}
	}
	empty := api.View{X: api.Prefix{N: 40}, Class: -5}
	for _, x := range []struct {
		r   api.Rule
		out bool
	}{
		{api.Rule{}, true}, {api.Rule{Match: 1}, false}, {api.Rule{Match: 2, V: 1}, false}, {api.Rule{Match: 3}, false}, {api.Rule{Match: 4}, false}, {api.Rule{Match: 4, V: -5}, true},
	} {
		if got := policy.Fits(x.r, empty); got != x.out {
			t.Errorf("Fits(%+v) of nothing = %v", x.r, got)
		}
	}
}

// P10.1
func TestPick(t *testing.T) {
	v := api.View{X: p(10, 32, 0, 0, 11), As: []int{7, 8, 9}, Class: 2}
	miss := api.Rule{Match: 2, V: 1, Act: 2, N: 1}
	odd := api.Rule{Match: 9, Act: 2, N: 9}
	first := api.Rule{Match: 3, V: 1, Act: 2, N: 2}
	second := api.Rule{Act: 2, N: 3}
	for _, x := range []struct {
		l  []api.Rule
		r  api.Rule
		ok bool
	}{
		{nil, api.Rule{}, false},
		{[]api.Rule{miss, odd}, api.Rule{}, false},
		{[]api.Rule{first, second}, first, true},
		{[]api.Rule{second, first}, second, true},
		{[]api.Rule{miss, odd, first, second}, first, true},
		{[]api.Rule{miss, second}, second, true},
	} {
		if r, ok := policy.Pick(x.l, v); r != x.r || ok != x.ok {
			t.Errorf("Pick(%v) = %v %v", x.l, r, ok)
		}
	}
}

// P10.2
func TestTotal(t *testing.T) {
	for _, x := range []struct {
		r     api.Rule
		class int
		out   bool
	}{
		{api.Rule{}, 0, true}, {api.Rule{}, 3, true}, {api.Rule{V: 2}, 3, true}, {api.Rule{}, -7, true},
		{api.Rule{Match: 4, V: 2}, 2, true}, {api.Rule{Match: 4, V: 2}, 3, false}, {api.Rule{Match: 4}, 0, true},
		{api.Rule{Match: 1}, 0, false}, {api.Rule{Match: 2, V: 2}, 2, false}, {api.Rule{Match: 3, V: 2}, 2, false},
		{api.Rule{Match: 5, V: 2}, 2, false}, {api.Rule{Match: -4, V: 2}, 2, false},
	} {
		if got := policy.Total(x.r, x.class); got != x.out {
			t.Errorf("Total(%+v, %d) = %v", x.r, x.class, got)
		}
	}
}

// P10.2
func TestReach(t *testing.T) {
	own := api.Rule{Match: 4, V: 0, Act: 1}
	customer := api.Rule{Match: 4, V: 1, Act: 1}
	has := api.Rule{Match: 2, V: 7, Act: 1}
	longer := api.Rule{Match: 3, V: 1, Act: 0}
	within := api.Rule{Match: 1, Act: 0}
	odd := api.Rule{Match: 7, V: 1}
	any := api.Rule{Act: 0}
	for _, x := range []struct {
		name  string
		l     []api.Rule
		class int
		out   []api.Rule
	}{
		{"none", nil, 0, nil},
		{"own ahead of any, of Own", []api.Rule{own, any}, 0, []api.Rule{own}},
		{"own ahead of any, of Customer", []api.Rule{own, any}, 1, []api.Rule{any}},
		{"nothing behind any", []api.Rule{any, has, own}, 0, []api.Rule{any}},
		{"others ahead of any", []api.Rule{has, longer, within, odd, any, has}, 2, []api.Rule{has, longer, within, odd, any}},
		{"no total one", []api.Rule{has, longer, own, within}, 2, []api.Rule{has, longer, within}},
		{"own between others", []api.Rule{has, customer, longer, own, within, any}, 0, []api.Rule{has, longer, own}},
		{"customer between others", []api.Rule{has, own, longer, customer, within, any}, 1, []api.Rule{has, longer, customer}},
		{"neither", []api.Rule{own, customer}, 3, nil},
		{"the same twice", []api.Rule{has, has, own, own}, 0, []api.Rule{has, has, own}},
	} {
		old := slices.Clone(x.l)
		if got := policy.Reach(x.l, x.class); !slices.Equal(got, x.out) {
			t.Errorf("%s: Reach = %v, want %v", x.name, got, x.out)
		}
		if !slices.Equal(x.l, old) {
			t.Errorf("%s: changed to %v", x.name, x.l)
		}
	}
}

// P10.3: of all lists of three rules out of some.
func TestWhatIsPickedIsOfReach(t *testing.T) {
	rules := []api.Rule{
		{Act: 1}, {Match: 1, X: p(10, 0, 0, 0, 8), Act: 2, N: 5}, {Match: 2, V: 7, Act: 3, N: 2}, {Match: 3, V: 1, Act: 0},
		{Match: 4, V: 0, Act: 1}, {Match: 4, V: 1, Act: 0}, {Match: 4, V: 2, Act: 3, N: 1}, {Match: 6},
	}
	for _, a := range rules {
		for _, b := range rules {
			for _, c := range rules {
				l := []api.Rule{a, b, c}
				for class := range 4 {
					for _, x := range []api.Prefix{p(10, 1, 0, 0, 16), p(9, 0, 0, 0, 8)} {
						for _, as := range [][]int{nil, {7}, {8, 9}} {
							v := api.View{X: x, As: as, Class: class}
							r, ok := policy.Pick(l, v)
							reach := policy.Reach(l, class)
							if ok && !slices.Contains(reach, r) {
								t.Fatalf("%v of %v is not of %v", r, l, reach)
							}
							again, okay := policy.Pick(reach, v)
							if again != r || okay != ok {
								t.Fatalf("of %v %v is picked, of what it reaches %v", l, r, again)
							}
						}
					}
				}
			}
		}
	}
}
