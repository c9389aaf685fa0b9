package route_test

import (
	"math"
	"slices"
	"testing"

	"ridgeway/api"
	"ridgeway/route"
)

func base() api.Route {
	return api.Route{Pref: 200, P: api.Path{Origin: 1, As: []int{10, 20, 30}, Hop: 100, Otc: 50}, From: 3}
}

// with is base with some of it otherwise.
func with(change func(r *api.Route)) api.Route {
	r := base()
	change(&r)
	return r
}

func same(a, b api.Route) bool {
	return a.Pref == b.Pref && a.From == b.From && a.P.Origin == b.P.Origin && slices.Equal(a.P.As, b.P.As) && a.P.Hop == b.P.Hop && a.P.Otc == b.P.Otc
}

// P9.1
func TestSane(t *testing.T) {
	for _, x := range []struct {
		name string
		r    api.Route
		out  bool
	}{
		{"base", base(), true},
		{"nothing", api.Route{}, false},
		{"pref 1", with(func(r *api.Route) { r.Pref = 1 }), true},
		{"pref 399", with(func(r *api.Route) { r.Pref = 399 }), true},
		{"pref 0", with(func(r *api.Route) { r.Pref = 0 }), false},
		{"pref 400", with(func(r *api.Route) { r.Pref = 400 }), false},
		{"pref -1", with(func(r *api.Route) { r.Pref = -1 }), false},
		{"pref far off", with(func(r *api.Route) { r.Pref = math.MaxInt }), false},
		{"from 0", with(func(r *api.Route) { r.From = 0 }), true},
		{"from 7", with(func(r *api.Route) { r.From = 7 }), true},
		{"from 8", with(func(r *api.Route) { r.From = 8 }), false},
		{"from -1", with(func(r *api.Route) { r.From = -1 }), false},
		{"from -2", with(func(r *api.Route) { r.From = -2 }), false},
		{"from far off", with(func(r *api.Route) { r.From = math.MinInt }), false},
		{"no AS", with(func(r *api.Route) { r.P.As = nil }), true},
		{"32 ASes", with(func(r *api.Route) { r.P.As = slices.Repeat([]int{1}, 32) }), true},
		{"33 ASes", with(func(r *api.Route) { r.P.As = slices.Repeat([]int{1}, 33) }), false},
		{"AS 0", with(func(r *api.Route) { r.P.As = []int{0} }), false},
		{"hop 0", with(func(r *api.Route) { r.P.Hop = 0 }), false},
		{"origin 3", with(func(r *api.Route) { r.P.Origin = 3 }), false},
		{"Otc -1", with(func(r *api.Route) { r.P.Otc = -1 }), false},
		{"Otc 0", with(func(r *api.Route) { r.P.Otc = 0 }), true},
		{"own", api.Route{Pref: 400, P: api.Path{Hop: 7}, From: -1}, true},
		{"own, hop 0", api.Route{Pref: 400, From: -1}, false},
		{"own, pref 399", api.Route{Pref: 399, P: api.Path{Hop: 7}, From: -1}, false},
		{"own, pref 401", api.Route{Pref: 401, P: api.Path{Hop: 7}, From: -1}, false},
		{"own, an AS", api.Route{Pref: 400, P: api.Path{As: []int{1}, Hop: 7}, From: -1}, false},
		{"own, origin 1", api.Route{Pref: 400, P: api.Path{Origin: 1, Hop: 7}, From: -1}, false},
		{"own, Otc", api.Route{Pref: 400, P: api.Path{Hop: 7, Otc: 1}, From: -1}, false},
		{"own, from -2", api.Route{Pref: 400, P: api.Path{Hop: 7}, From: -2}, false},
		{"own, from 0", api.Route{Pref: 400, P: api.Path{Hop: 7}, From: 0}, false},
		{"pref 300 from -1", api.Route{Pref: 300, P: api.Path{Hop: 7}, From: -1}, false},
	} {
		if got := route.Sane(x.r); got != x.out {
			t.Errorf("%s: Sane = %v", x.name, got)
		}
	}
}

// P9.1
func TestOwn(t *testing.T) {
	for _, hop := range []int{1, 0x0a000001, 0, -5, 1<<32 - 1, math.MaxInt} {
		if got := route.Own(hop); !same(got, api.Route{Pref: 400, P: api.Path{Hop: hop}, From: -1}) {
			t.Errorf("Own(%d) = %v", hop, got)
		}
	}
	if !route.Sane(route.Own(9)) || route.Sane(route.Own(0)) {
		t.Error("Sane of Own")
	}
}

// chain are routes of which each is better than those behind it, each for another reason: what is behind the reason is the other way round.
func chain() []api.Route {
	top := math.MaxInt
	low := math.MinInt
	return []api.Route{
		{Pref: top, P: api.Path{Origin: top, As: []int{9, 9, 9, 9}, Hop: top, Otc: top}, From: top},
		{Pref: 401, P: api.Path{Origin: top, As: []int{9, 9, 9, 9}, Hop: top, Otc: top}, From: top},
		{Pref: 400, P: api.Path{Origin: 9, Hop: 9, Otc: 9}, From: 9},
		{Pref: 300, P: api.Path{Origin: 2, As: []int{9, 9, 9}, Hop: 9, Otc: 9}, From: 7},
		{Pref: 200, P: api.Path{Origin: 2, Hop: 9, Otc: 9}, From: 7},
		{Pref: 200, P: api.Path{Origin: 2, As: []int{9}, Hop: 9, Otc: 9}, From: 7},
		{Pref: 200, P: api.Path{Origin: low, As: []int{9, 9}, Hop: 9, Otc: 9}, From: 7},
		{Pref: 200, P: api.Path{Origin: 0, As: []int{9, 9}, Hop: 9, Otc: 9}, From: 7},
		{Pref: 200, P: api.Path{Origin: 1, As: []int{low, 9}, Hop: 9, Otc: 9}, From: 7},
		{Pref: 200, P: api.Path{Origin: 1, As: []int{7, 9}, Hop: 9, Otc: 9}, From: 7},
		{Pref: 200, P: api.Path{Origin: 1, As: []int{8, 7}, Hop: 9, Otc: 9}, From: 7},
		{Pref: 200, P: api.Path{Origin: 1, As: []int{8, 8}, Hop: 1, Otc: 9}, From: 7},
		{Pref: 200, P: api.Path{Origin: 1, As: []int{8, 8}, Hop: 2, Otc: 1}, From: 7},
		{Pref: 200, P: api.Path{Origin: 1, As: []int{8, 8}, Hop: 2, Otc: 2}, From: -1},
		{Pref: 200, P: api.Path{Origin: 1, As: []int{8, 8}, Hop: 2, Otc: 2}, From: 0},
		{Pref: 200, P: api.Path{Origin: 1, As: []int{8, 8}, Hop: 2, Otc: 2}, From: 1},
		{Pref: 200, P: api.Path{Origin: 1, As: []int{100, 1}, Hop: 1, Otc: 1}, From: 0},
		{Pref: 200, P: api.Path{Origin: 2, As: []int{1, 1}, Hop: 1, Otc: 1}, From: 0},
		{Pref: 200, P: api.Path{Origin: 0, As: []int{1, 1, 1}, Hop: 1, Otc: 1}, From: 0},
		{Pref: 199, P: api.Path{}, From: 0},
		{Pref: low, P: api.Path{}, From: low},
	}
}

// P9.2, P9.4, and P9.1 of Same
func TestCompare(t *testing.T) {
	l := chain()
	for i, a := range l {
		for j, b := range chain() {
			want := 0
			if i < j {
				want = -1
			} else if i > j {
				want = 1
			}
			if got := route.Compare(a, b); got != want {
				t.Errorf("Compare(%v, %v) = %d, want %d", a, b, got, want)
			}
			if got := route.Same(a, b); got != (i == j) {
				t.Errorf("Same(%v, %v) = %v", a, b, got)
			}
		}
	}
	if route.Compare(api.Route{Pref: 300, P: api.Path{As: []int{1, 2, 3}}}, api.Route{Pref: 200, P: api.Path{As: []int{1}}}) != -1 {
		t.Error("300 over three ASes is better than 200 over one")
	}
}

// P9.1, P9.2: each field by itself.
func TestEachField(t *testing.T) {
	for _, x := range []struct {
		name   string
		change func(r *api.Route)
		out    int
	}{
		{"pref", func(r *api.Route) { r.Pref++ }, -1},
		{"fewer ASes", func(r *api.Route) { r.P.As = []int{10, 20} }, -1},
		{"more ASes", func(r *api.Route) { r.P.As = []int{1, 2, 3, 4} }, 1},
		{"origin", func(r *api.Route) { r.P.Origin++ }, 1},
		{"first AS", func(r *api.Route) { r.P.As = []int{9, 99, 99} }, -1},
		{"middle AS", func(r *api.Route) { r.P.As = []int{10, 21, 1} }, 1},
		{"last AS", func(r *api.Route) { r.P.As = []int{10, 20, 29} }, -1},
		{"hop", func(r *api.Route) { r.P.Hop++ }, 1},
		{"Otc", func(r *api.Route) { r.P.Otc-- }, -1},
		{"from", func(r *api.Route) { r.From++ }, 1},
	} {
		r := with(x.change)
		if route.Compare(r, base()) != x.out || route.Compare(base(), r) != -x.out || route.Same(r, base()) || route.Same(base(), r) {
			t.Errorf("%s: %d %d", x.name, route.Compare(r, base()), route.Compare(base(), r))
		}
	}
	if !route.Same(base(), base()) || route.Compare(base(), base()) != 0 {
		t.Error("one is the same as itself")
	}
	if !route.Same(api.Route{P: api.Path{As: []int{}}}, api.Route{}) {
		t.Error("a list without elements may be nil or not")
	}
}

// P9.3, P9.4, R3
func TestBest(t *testing.T) {
	if r, ok := route.Best(nil); ok || !same(r, api.Route{}) {
		t.Errorf("Best of none = %v %v", r, ok)
	}
	if r, ok := route.Best([]api.Route{}); ok || !same(r, api.Route{}) {
		t.Errorf("Best of none = %v %v", r, ok)
	}
	for from := range chain() {
		l := chain()[from:]
		for turn := range l {
			turned := slices.Concat(l[turn:], l[:turn], l[:1])
			old := slices.Clone(turned)
			r, ok := route.Best(turned)
			if !ok || !same(r, l[0]) {
				t.Errorf("Best = %v %v, want %v", r, ok, l[0])
			}
			slices.Reverse(turned)
			if r, ok := route.Best(turned); !ok || !same(r, l[0]) {
				t.Errorf("Best the other way round = %v %v, want %v", r, ok, l[0])
			}
			slices.Reverse(turned)
			if !slices.EqualFunc(turned, old, same) {
				t.Error("the list is changed")
			}
		}
	}
}
