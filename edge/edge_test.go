package edge_test

import (
	"math"
	"slices"
	"testing"

	"ridgeway/api"
	"ridgeway/edge"
)

func p(a, b, c, d, n int) api.Prefix {
	return api.Prefix{A: a<<24 | b<<16 | c<<8 | d, N: n}
}

func samePath(a, b api.Path) bool {
	return a.Origin == b.Origin && slices.Equal(a.As, b.As) && a.Hop == b.Hop && a.Otc == b.Otc
}

func same(a, b api.Route) bool { return a.Pref == b.Pref && a.From == b.From && samePath(a.P, b.P) }

// rules of In and Out that take all, and tell all.
func take(n int) []api.Rule { return []api.Rule{{Act: 2, N: n}} }
func tell() []api.Rule      { return []api.Rule{{Act: 1}} }

// node is 100, with customer 11, peer 12 and provider 13, in this order, and a customer 14.
func node() api.Conf {
	return api.Conf{As: 100, Id: 0x0a000001, Hold: 90, Cap: 100, Sides: []api.Side{
		{As: 11, Rel: 1, In: take(300), Out: tell()},
		{As: 12, Rel: 2, In: take(200), Out: tell()},
		{As: 13, Rel: 3, In: take(100), Out: tell()},
		{As: 14, Rel: 1, In: take(301), Out: tell()},
	}}
}

var x10 = p(10, 0, 0, 0, 8)

// P14.1
func TestClass(t *testing.T) {
	for from, want := range map[int]int{0: 1, 1: 2, 2: 3, 3: 1, 4: 0, 5: 0, -1: 0, -2: 0, math.MaxInt: 0, math.MinInt: 0} {
		if got := edge.Class(node(), from); got != want {
			t.Errorf("Class(%d) = %d, want %d", from, got, want)
		}
	}
	if edge.Class(api.Conf{}, 0) != 0 || edge.Class(api.Conf{Sides: []api.Side{{Rel: 77}}}, 0) != 77 {
		t.Error("Class of what may not be")
	}
}

// P14.2: what is taken.
func TestIn(t *testing.T) {
	for _, x := range []struct {
		name string
		k    int
		p    api.Path
		r    api.Route
	}{
		{"from a customer", 0, api.Path{Origin: 2, As: []int{11, 9}, Hop: 5}, api.Route{Pref: 300, P: api.Path{Origin: 2, As: []int{11, 9}, Hop: 5}, From: 0}},
		{"from the other customer", 3, api.Path{As: []int{14}, Hop: 5}, api.Route{Pref: 301, P: api.Path{As: []int{14}, Hop: 5}, From: 3}},
		{"from a peer", 1, api.Path{As: []int{12}, Hop: 5}, api.Route{Pref: 200, P: api.Path{As: []int{12}, Hop: 5, Otc: 12}, From: 1}},
		{"from a peer, marked by it", 1, api.Path{As: []int{12}, Hop: 5, Otc: 12}, api.Route{Pref: 200, P: api.Path{As: []int{12}, Hop: 5, Otc: 12}, From: 1}},
		{"from a provider", 2, api.Path{As: []int{13, 13, 7}, Hop: 5}, api.Route{Pref: 100, P: api.Path{As: []int{13, 13, 7}, Hop: 5, Otc: 13}, From: 2}},
		{"from a provider, marked", 2, api.Path{As: []int{13, 7}, Hop: 5, Otc: 7}, api.Route{Pref: 100, P: api.Path{As: []int{13, 7}, Hop: 5, Otc: 7}, From: 2}},
		{"over 32 ASes", 0, api.Path{As: slices.Repeat([]int{11}, 32), Hop: 5}, api.Route{Pref: 300, P: api.Path{As: slices.Repeat([]int{11}, 32), Hop: 5}, From: 0}},
	} {
		old := slices.Clone(x.p.As)
		if r, ok := edge.In(node(), x.k, x10, x.p); !same(r, x.r) || !ok {
			t.Errorf("%s: %v %v, want %v", x.name, r, ok, x.r)
		}
		if !slices.Equal(x.p.As, old) {
			t.Errorf("%s: changed to %v", x.name, x.p)
		}
	}
}

// P14.2: what is not taken.
func TestInOfWhatIsNothing(t *testing.T) {
	good := api.Path{As: []int{11, 9}, Hop: 5}
	bad := node()
	bad.Cap = 0
	for _, x := range []struct {
		name string
		c    api.Conf
		k    int
		x    api.Prefix
		p    api.Path
	}{
		{"a node that may not be", bad, 0, x10, good},
		{"no node", api.Conf{}, 0, x10, good},
		{"side -1", node(), -1, x10, good},
		{"side 4", node(), 4, x10, good},
		{"a side far off", node(), math.MaxInt, x10, good},
		{"no prefix", node(), 0, p(10, 0, 0, 1, 8), good},
		{"no prefix by its bits", node(), 0, api.Prefix{N: 33}, good},
		{"a path that may not be", node(), 0, x10, api.Path{As: []int{11}}},
		{"an origin that may not be", node(), 0, x10, api.Path{Origin: 3, As: []int{11}, Hop: 5}},
		{"no AS", node(), 0, x10, api.Path{Hop: 5}},
		{"another AS first", node(), 0, x10, api.Path{As: []int{9, 11}, Hop: 5}},
		{"that of another side", node(), 0, x10, api.Path{As: []int{14}, Hop: 5}},
		{"the node's AS behind", node(), 0, x10, api.Path{As: []int{11, 9, 100}, Hop: 5}},
		{"the node's AS between", node(), 0, x10, api.Path{As: []int{11, 100, 9}, Hop: 5}},
		{"33 ASes", node(), 0, x10, api.Path{As: slices.Repeat([]int{11}, 33), Hop: 5}},
		{"marked, from a customer", node(), 0, x10, api.Path{As: []int{11}, Hop: 5, Otc: 11}},
		{"marked by another, from a peer", node(), 1, x10, api.Path{As: []int{12}, Hop: 5, Otc: 9}},
	} {
		if r, ok := edge.In(x.c, x.k, x.x, x.p); ok || !same(r, api.Route{}) {
			t.Errorf("%s: %v %v", x.name, r, ok)
		}
	}
}

// P14.2: the first rule that fits says what becomes of it.
func TestInByRules(t *testing.T) {
	for _, x := range []struct {
		name string
		in   []api.Rule
		x    api.Prefix
		as   []int
		pref int
	}{
		{"none", nil, x10, []int{11}, 0},
		{"none that fits", []api.Rule{{Match: 2, V: 9, Act: 2, N: 5}}, x10, []int{11}, 0},
		{"one that fits", []api.Rule{{Match: 2, V: 9, Act: 2, N: 5}}, x10, []int{11, 9}, 5},
		{"rejects", []api.Rule{{}, {Act: 2, N: 5}}, x10, []int{11}, 0},
		{"the first one", []api.Rule{{Match: 3, V: 1, Act: 2, N: 1}, {Act: 2, N: 399}, {}}, x10, []int{11, 9}, 1},
		{"the second one", []api.Rule{{Match: 3, V: 1, Act: 2, N: 1}, {Act: 2, N: 399}, {}}, x10, []int{11}, 399},
		{"rejects what is within", []api.Rule{{Match: 1, X: x10}, {Act: 2, N: 7}}, p(10, 1, 0, 0, 16), []int{11}, 0},
		{"takes what is not within", []api.Rule{{Match: 1, X: x10}, {Act: 2, N: 7}}, p(9, 1, 0, 0, 16), []int{11}, 7},
	} {
		c := node()
		c.Sides[0].In = x.in
		want := api.Route{}
		if x.pref > 0 {
			want = api.Route{Pref: x.pref, P: api.Path{As: x.as, Hop: 5}, From: 0}
		}
		if r, ok := edge.In(c, 0, x.x, api.Path{As: x.as, Hop: 5}); !same(r, want) || ok != (x.pref > 0) {
			t.Errorf("%s: %v %v, want %v", x.name, r, ok, want)
		}
	}
}

func own() api.Route { return api.Route{Pref: 400, P: api.Path{Hop: 0x0a000001}, From: -1} }

// P14.3: what is told.
func TestOut(t *testing.T) {
	customers := api.Route{Pref: 300, P: api.Path{Origin: 2, As: []int{11, 9}, Hop: 5}, From: 0}
	peers := api.Route{Pref: 200, P: api.Path{As: []int{12}, Hop: 5, Otc: 12}, From: 1}
	for _, x := range []struct {
		name string
		k    int
		r    api.Route
		p    api.Path
	}{
		{"own to a customer", 0, own(), api.Path{As: []int{100}, Hop: 0x0a000001, Otc: 100}},
		{"own to a peer", 1, own(), api.Path{As: []int{100}, Hop: 0x0a000001, Otc: 100}},
		{"own to a provider", 2, own(), api.Path{As: []int{100}, Hop: 0x0a000001}},
		{"a customer's to a customer", 3, customers, api.Path{Origin: 2, As: []int{100, 11, 9}, Hop: 0x0a000001, Otc: 100}},
		{"a customer's to a peer", 1, customers, api.Path{Origin: 2, As: []int{100, 11, 9}, Hop: 0x0a000001, Otc: 100}},
		{"a customer's to a provider", 2, customers, api.Path{Origin: 2, As: []int{100, 11, 9}, Hop: 0x0a000001}},
		{"a peer's to a customer", 3, peers, api.Path{As: []int{100, 12}, Hop: 0x0a000001, Otc: 12}},
		{"31 ASes", 2, api.Route{Pref: 1, P: api.Path{As: slices.Repeat([]int{11}, 31), Hop: 5}, From: 0}, api.Path{As: append([]int{100}, slices.Repeat([]int{11}, 31)...), Hop: 0x0a000001}},
		{"over the node itself", 2, api.Route{Pref: 1, P: api.Path{As: []int{9, 100}, Hop: 5}, From: 0}, api.Path{As: []int{100, 9, 100}, Hop: 0x0a000001}},
	} {
		old := slices.Clone(x.r.P.As)
		if got, ok := edge.Out(node(), x.k, x10, x.r); !samePath(got, x.p) || !ok {
			t.Errorf("%s: %v %v, want %v", x.name, got, ok, x.p)
		}
		if !slices.Equal(x.r.P.As, old) {
			t.Errorf("%s: changed to %v", x.name, x.r)
		}
	}
}

// P14.3: what is not told.
func TestOutOfWhatDoesNotGo(t *testing.T) {
	bad := node()
	bad.Id = 0
	r := func(from, otc int, as ...int) api.Route {
		return api.Route{Pref: 100, P: api.Path{As: as, Hop: 5, Otc: otc}, From: from}
	}
	for _, x := range []struct {
		name string
		c    api.Conf
		k    int
		x    api.Prefix
		r    api.Route
	}{
		{"a node that may not be", bad, 0, x10, own()},
		{"no node", api.Conf{}, 0, x10, own()},
		{"side -1", node(), -1, x10, own()},
		{"side 4", node(), 4, x10, own()},
		{"a side far off", node(), math.MinInt, x10, own()},
		{"no prefix", node(), 0, p(10, 0, 0, 1, 8), own()},
		{"a route that may not be", node(), 0, x10, api.Route{Pref: 399, P: api.Path{Hop: 5}, From: -1}},
		{"no route", node(), 0, x10, api.Route{}},
		{"33 ASes, already", node(), 0, x10, r(3, 0, slices.Repeat([]int{14}, 33)...)},
		{"from there", node(), 0, x10, r(0, 0, 11)},
		{"from the provider itself", node(), 2, x10, r(2, 0, 13)},
		{"from a side that there is not", node(), 0, x10, r(4, 0, 9)},
		{"from a side that there is not, the greatest", node(), 0, x10, r(7, 0, 9)},
		{"marked, to a peer", node(), 1, x10, r(2, 13, 13)},
		{"marked, to a provider", node(), 2, x10, r(1, 12, 12)},
		{"marked, of a customer", node(), 2, x10, r(0, 9, 11)},
		{"32 ASes", node(), 2, x10, r(0, 0, slices.Repeat([]int{11}, 32)...)},
	} {
		if got, ok := edge.Out(x.c, x.k, x.x, x.r); ok || !samePath(got, api.Path{}) {
			t.Errorf("%s: %v %v", x.name, got, ok)
		}
	}
}

// P14.3: the first rule that fits says what becomes of it.
func TestOutByRules(t *testing.T) {
	gao := []api.Rule{{Match: 4, V: 0, Act: 1}, {Match: 4, V: 1, Act: 3, N: 2}}
	r := func(from int, as ...int) api.Route {
		return api.Route{Pref: 100, P: api.Path{As: as, Hop: 5}, From: from}
	}
	for _, x := range []struct {
		name string
		out  []api.Rule
		r    api.Route
		as   []int
	}{
		{"none", nil, own(), nil},
		{"of Own", gao, own(), []int{100}},
		{"of Customer", gao, r(0, 11), []int{100, 100, 100, 11}},
		{"of the other Customer", gao, r(3, 14, 9), []int{100, 100, 100, 14, 9}},
		{"of Peer", gao, r(1, 12), nil},
		{"rejects", []api.Rule{{}, {Act: 1}}, own(), nil},
		{"the first one", []api.Rule{{Match: 2, V: 9, Act: 3, N: 1}, {Act: 1}, {}}, r(0, 11, 9), []int{100, 100, 11, 9}},
		{"the second one", []api.Rule{{Match: 2, V: 9, Act: 3, N: 1}, {Act: 1}, {}}, r(0, 11), []int{100, 11}},
		{"the ASes as they come", []api.Rule{{Match: 2, V: 100, Act: 1}}, own(), nil},
		{"as many as there are", []api.Rule{{Match: 3, V: 1}, {Act: 1}}, r(0, 11), []int{100, 11}},
		{"more than there may be", []api.Rule{{Match: 3, V: 1}, {Act: 1}}, r(0, 11, 9), nil},
		{"within", []api.Rule{{Match: 1, X: x10, Act: 1}}, own(), []int{100}},
		{"not within", []api.Rule{{Match: 1, X: p(10, 0, 0, 0, 9), Act: 1}}, own(), nil},
		{"8 times more, 23 ASes", []api.Rule{{Act: 3, N: 8}}, r(0, slices.Repeat([]int{11}, 23)...), append(slices.Repeat([]int{100}, 9), slices.Repeat([]int{11}, 23)...)},
		{"8 times more, 24 ASes", []api.Rule{{Act: 3, N: 8}}, r(0, slices.Repeat([]int{11}, 24)...), nil},
	} {
		c := node()
		c.Sides[2].Out = x.out
		want := api.Path{}
		if x.as != nil {
			want = api.Path{As: x.as, Hop: 0x0a000001}
		}
		if got, ok := edge.Out(c, 2, x10, x.r); !samePath(got, want) || ok != (x.as != nil) {
			t.Errorf("%s: %v %v, want %v", x.name, got, ok, want)
		}
	}
}

// P14.4: what is told of has the node's AS first; what is taken has not the node's AS.
func TestWhatGoesFromNodeToNode(t *testing.T) {
	paths := []api.Path{{Hop: 1}, {As: []int{11}, Hop: 1}, {As: []int{12, 100}, Hop: 1}, {As: []int{13, 9}, Hop: 1, Otc: 9}, {As: []int{14, 100, 14}, Hop: 1}, {As: []int{100}, Hop: 1}, {As: []int{12}, Hop: 1, Otc: 12}}
	for _, q := range paths {
		for from := -1; from < 4; from++ {
			r, ok := edge.In(node(), from, x10, q)
			if ok && slices.Contains(r.P.As, 100) {
				t.Errorf("%v is taken from %d", q, from)
			}
			if !ok {
				r = own()
			}
			for to := range 4 {
				if told, ok := edge.Out(node(), to, x10, r); ok && (told.As[0] != 100 || told.Hop != 0x0a000001) {
					t.Errorf("%v is told to %d as %v", r, to, told)
				}
			}
		}
	}
}

// The chapter's example.
func TestExample(t *testing.T) {
	c := api.Conf{As: 65001, Id: 1, Hold: 90, Cap: 100, Sides: []api.Side{{As: 65002, Rel: 1, In: take(300), Out: tell()}, {As: 65003, Rel: 3, In: take(100), Out: tell()}}}
	r, ok := edge.In(c, 0, x10, api.Path{As: []int{65002}, Hop: 2})
	told, also := edge.Out(c, 1, x10, r)
	if !ok || !also || r.Pref != 300 || !slices.Equal(told.As, []int{65001, 65002}) {
		t.Errorf("%v %v", r, told)
	}
}
