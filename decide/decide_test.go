package decide_test

import (
	"math/rand"
	"slices"
	"testing"

	"ridgeway/api"
	"ridgeway/decide"
	"ridgeway/edge"
	"ridgeway/prefix"
	"ridgeway/route"
)

func p(a, b, c, d, n int) api.Prefix {
	return api.Prefix{A: a<<24 | b<<16 | c<<8 | d, N: n}
}

// node is 100, with customer 11, peer 12 and provider 13, and has two prefixes itself.
func node() api.Conf {
	side := func(as, rel, pref int) api.Side {
		return api.Side{As: as, Rel: rel, In: []api.Rule{{Match: 2, V: 66}, {Act: 2, N: pref}}, Out: []api.Rule{{Act: 1}}}
	}
	return api.Conf{As: 100, Id: 0x0a000001, Hold: 90, Cap: 100, Own: []api.Prefix{p(50, 0, 0, 0, 8), p(10, 0, 0, 0, 8)}, Sides: []api.Side{side(11, 1, 300), side(12, 2, 200), side(13, 3, 200)}}
}

// of is an entry of the prefix a.0.0.0/8, over some ASes.
func of(a int, as ...int) api.Entry {
	return api.Entry{X: p(a, 0, 0, 0, 8), P: api.Path{As: as, Hop: 5}}
}

func samePath(a, b api.Path) bool {
	return a.Origin == b.Origin && slices.Equal(a.As, b.As) && a.Hop == b.Hop && a.Otc == b.Otc
}

func same(a, b api.Route) bool { return a.Pref == b.Pref && a.From == b.From && samePath(a.P, b.P) }

func sameChoice(a, b api.Choice) bool { return a.X == b.X && same(a.R, b.R) }

type tables = [][]api.Entry

func own() api.Route { return api.Route{Pref: 400, P: api.Path{Hop: 0x0a000001}, From: -1} }

// from is what node makes of what it is told: from its customer, peer or provider.
func from(k int, as ...int) api.Route {
	r := api.Route{Pref: 300 - 100*min(k, 1), P: api.Path{As: as, Hop: 5}, From: k}
	if k > 0 {
		r.P.Otc = 11 + k
	}
	return r
}

// bad has a customer with a prefix, but may not be.
func bad() api.Conf {
	c := node()
	c.Hold = 1
	return c
}

// P19.1
func TestThose(t *testing.T) {
	for _, x := range []struct {
		name string
		c    api.Conf
		in   tables
		a    int
		out  []api.Route
	}{
		{"own alone", node(), nil, 10, []api.Route{own()}},
		{"the other own", node(), tables{}, 50, []api.Route{own()}},
		{"nothing", node(), nil, 20, nil},
		{"own, and what is told", node(), tables{{of(10, 11)}, {}, {of(10, 13, 9)}}, 10, []api.Route{own(), from(0, 11), from(2, 13, 9)}},
		{"by rising sides", node(), tables{{of(20, 11)}, {of(20, 12)}, {of(20, 13, 9)}}, 20, []api.Route{from(0, 11), from(1, 12), from(2, 13, 9)}},
		{"fewer tables", node(), tables{nil, {of(20, 12)}}, 20, []api.Route{from(1, 12)}},
		{"more tables", node(), tables{nil, nil, nil, {of(20, 14)}, {of(20, 11)}}, 20, nil},
		{"what is nothing", node(), tables{{of(20, 9)}, {of(20, 12, 100)}, {of(20, 13, 66)}}, 20, nil},
		{"other prefixes", node(), tables{{of(19, 11), of(20, 11), of(21, 11)}, {of(19, 12), of(21, 12)}}, 20, []api.Route{from(0, 11)}},
		{"no table", node(), tables{{of(20, 11), of(20, 11)}, {of(30, 12), of(20, 12)}, {of(20, 13)}}, 20, []api.Route{from(2, 13)}},
		{"may not be", bad(), tables{{of(10, 11)}}, 10, nil},
		{"no node", api.Conf{}, tables{{of(10, 11)}}, 10, nil},
	} {
		if got := decide.Those(x.c, x.in, p(x.a, 0, 0, 0, 8)); !slices.EqualFunc(got, x.out, same) {
			t.Errorf("%s: %v, want %v", x.name, got, x.out)
		}
	}
	if got := decide.Those(node(), tables{{of(10, 11)}}, p(10, 0, 0, 0, 9)); len(got) != 0 {
		t.Errorf("of a prefix within: %v", got)
	}
	for _, x := range []api.Prefix{{N: 33}, {A: 1, N: 8}, {A: -1}} {
		if got := decide.Those(node(), tables{{{X: x, P: api.Path{As: []int{11}, Hop: 5}}}}, x); len(got) != 0 {
			t.Errorf("of no prefix: %v", got)
		}
	}
}

// P19.2
func TestLoc(t *testing.T) {
	ch := func(a int, r api.Route) api.Choice { return api.Choice{X: p(a, 0, 0, 0, 8), R: r} }
	for _, x := range []struct {
		name string
		c    api.Conf
		in   tables
		out  []api.Choice
	}{
		{"own", node(), nil, []api.Choice{ch(10, own()), ch(50, own())}},
		{"own is taken from nobody else", node(), tables{{of(10, 11), of(50, 11)}}, []api.Choice{ch(10, own()), ch(50, own())}},
		{"others", node(), tables{{of(20, 11, 9, 8)}, {of(9, 12), of(20, 12)}, {of(60, 13)}}, []api.Choice{ch(9, from(1, 12)), ch(10, own()), ch(20, from(0, 11, 9, 8)), ch(50, own()), ch(60, from(2, 13))}},
		{"the best one", node(), tables{nil, {of(20, 12, 9)}, {of(20, 13)}}, []api.Choice{ch(10, own()), ch(20, from(2, 13)), ch(50, own())}},
		{"the best one, by ASes", node(), tables{nil, {of(20, 12)}, {of(20, 13)}}, []api.Choice{ch(10, own()), ch(20, from(1, 12)), ch(50, own())}},
		{"what is nothing", node(), tables{{of(20, 66), of(30, 11, 66)}, {of(20, 12, 100)}}, []api.Choice{ch(10, own()), ch(50, own())}},
		{"no table", node(), tables{{of(30, 11), of(20, 11)}, {of(20, 12)}}, []api.Choice{ch(10, own()), ch(20, from(1, 12)), ch(50, own())}},
		{"more tables", node(), tables{nil, nil, nil, {of(20, 11)}}, []api.Choice{ch(10, own()), ch(50, own())}},
		{"may not be", bad(), tables{{of(20, 11)}}, nil},
		{"no node", api.Conf{}, tables{{of(20, 11)}}, nil},
	} {
		if got := decide.Loc(x.c, x.in); !slices.EqualFunc(got, x.out, sameChoice) {
			t.Errorf("%s: %v, want %v", x.name, got, x.out)
		}
	}
}

// P19.2
func TestGetAndSame(t *testing.T) {
	x := func(a int) api.Prefix { return p(a, 0, 0, 0, 8) }
	l := []api.Choice{{X: x(30), R: from(0, 11)}, {X: x(10), R: own()}, {X: x(20), R: from(1, 12)}, {X: x(10), R: from(2, 13)}, {X: api.Prefix{N: 40}, R: api.Route{From: 9}}}
	for i, c := range l {
		want := c.R
		if i == 3 {
			want = own()
		}
		if got, ok := decide.Get(l, c.X); !same(got, want) || !ok {
			t.Errorf("Get of %v = %v %v", c.X, got, ok)
		}
	}
	for _, y := range []api.Prefix{{}, x(11), p(10, 0, 0, 0, 9)} {
		if got, ok := decide.Get(l, y); !same(got, api.Route{}) || ok {
			t.Errorf("Get of %v = %v %v", y, got, ok)
		}
	}
	if got, ok := decide.Get(nil, api.Prefix{}); !same(got, api.Route{}) || ok {
		t.Errorf("Get of none = %v %v", got, ok)
	}
	if !decide.Same(l, slices.Clone(l)) || !decide.Same(nil, []api.Choice{}) || decide.Same(l, nil) || decide.Same(nil, l) {
		t.Error("Same")
	}
	for _, change := range []func(l []api.Choice) []api.Choice{
		func(l []api.Choice) []api.Choice { return l[1:] },
		func(l []api.Choice) []api.Choice { return l[:4] },
		func(l []api.Choice) []api.Choice { l[0], l[1] = l[1], l[0]; return l },
		func(l []api.Choice) []api.Choice { l[4].X.N++; return l },
		func(l []api.Choice) []api.Choice { l[4].R.From++; return l },
		func(l []api.Choice) []api.Choice { l[2].R.P.As = []int{13}; return l },
		func(l []api.Choice) []api.Choice { l[2].R.Pref++; return l },
	} {
		if m := change(slices.Clone(l)); decide.Same(l, m) || decide.Same(m, l) {
			t.Errorf("%v is not the same", m)
		}
	}
}

// P19.3: each choice is one of the routes to its prefix, and none is better; of tables at random. R3
func TestEachChoiceIsTheBest(t *testing.T) {
	r := rand.New(rand.NewSource(4))
	for range 500 {
		c := node()
		var in tables
		for _, s := range c.Sides[:r.Intn(4)] {
			var l []api.Entry
			for a := range 15 {
				if r.Intn(2) == 0 {
					l = append(l, of(a, slices.Concat([]int{s.As}, []int{8, 66, 9, 100}[:r.Intn(5)])...))
					l[len(l)-1].P.Origin = r.Intn(3)
				}
			}
			in = append(in, l)
		}
		var old tables
		for _, l := range in {
			old = append(old, slices.Clone(l))
		}
		loc := decide.Loc(c, in)
		there := 0
		for a := range 256 {
			x := p(a, 0, 0, 0, 8)
			those := decide.Those(c, in, x)
			var want []api.Route
			if slices.Contains(c.Own, x) {
				want = append(want, route.Own(c.Id))
			}
			for k, l := range in {
				for _, e := range l {
					if got, ok := edge.In(c, k, x, e.P); e.X == x && ok {
						want = append(want, got)
					}
				}
			}
			if !slices.EqualFunc(those, want, same) {
				t.Fatalf("Those of %v = %v, want %v", x, those, want)
			}
			got, ok := decide.Get(loc, x)
			if ok != (len(those) > 0) {
				t.Fatalf("of %v there is %v %v", x, got, ok)
			}
			if !ok {
				continue
			}
			there++
			if !slices.ContainsFunc(those, func(b api.Route) bool { return same(got, b) }) {
				t.Fatalf("%v is none of %v", got, those)
			}
			if slices.ContainsFunc(those, func(b api.Route) bool { return route.Compare(b, got) < 0 }) {
				t.Fatalf("%v is not the best one of %v", got, those)
			}
		}
		rising := slices.IsSortedFunc(loc, func(a, b api.Choice) int { return prefix.Compare(a.X, b.X) })
		if there != len(loc) || !rising {
			t.Fatalf("%v", loc)
		}
		if !slices.EqualFunc(in, old, func(a, b []api.Entry) bool {
			return slices.EqualFunc(a, b, func(a, b api.Entry) bool { return a.X == b.X && samePath(a.P, b.P) })
		}) {
			t.Fatal("what is handed in is changed")
		}
	}
}
