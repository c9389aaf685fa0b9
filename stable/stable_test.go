package stable_test

import (
	"math"
	"math/rand"
	"slices"
	"testing"

	"ridgeway/api"
	"ridgeway/decide"
	"ridgeway/edge"
	"ridgeway/fair"
	"ridgeway/stable"
	"ridgeway/topo"
)

// x is the prefix of which node i is told in own.
func x(i int) api.Prefix { return api.Prefix{A: (10 + i) << 24, N: 16} }

func own() []api.Prefix {
	var l []api.Prefix
	for i := range 8 {
		l = append(l, x(i))
	}
	return l
}

// row are nodes, each a customer of the next one.
func row(n int) []api.Conf {
	var l []api.Link
	for i := range n - 1 {
		l = append(l, api.Link{A: i, B: i + 1, Rel: 3})
	}
	return topo.Gao(n, own(), l)
}

// nine are nodes of which there are too many.
func nine() []api.Conf {
	l := row(8)
	return append(l, api.Conf{As: 7, Id: 7, Cap: 1, Own: []api.Prefix{x(0)}})
}

// restless are nodes that never agree: two peers, each of which would rather have what the other one has from their customer 0.
func restless() []api.Conf {
	t := topo.Gao(3, own()[:1], []api.Link{{A: 1, B: 0, Rel: 1}, {A: 2, B: 0, Rel: 1}, {A: 1, B: 2, Rel: 2}})
	for _, i := range []int{1, 2} {
		t[i].Sides[1].In[0].N = 310
	}
	return t
}

func same(a, b [][]api.Choice) bool { return slices.EqualFunc(a, b, decide.Same) }

// ownRoute is what a node takes to what it has itself.
func ownRoute(i int) api.Choice {
	return api.Choice{X: x(i), R: api.Route{Pref: 400, P: api.Path{Hop: 0x0a000001 + i}, From: -1}}
}

// over is a choice of the prefix of the last AS, by numbers of nodes, nearest first.
func over(pref, otc, from int, nodes ...int) api.Choice {
	r := api.Route{Pref: pref, P: api.Path{Hop: 0x0a000001 + nodes[0], Otc: otc}, From: from}
	for _, i := range nodes {
		r.P.As = append(r.P.As, 65001+i)
	}
	return api.Choice{X: x(nodes[len(nodes)-1]), R: r}
}

type choices = [][]api.Choice

// rowTaken is what all agree on in a row of three.
func rowTaken() choices {
	return choices{
		{ownRoute(0), over(100, 65002, 0, 1), over(100, 65003, 0, 1, 2)},
		{over(300, 0, 0, 0), ownRoute(1), over(100, 65003, 1, 2)},
		{over(300, 0, 0, 1, 0), over(300, 0, 0, 1), ownRoute(2)},
	}
}

// P24.1
func TestFirst(t *testing.T) {
	bad := row(3)
	bad[1].Cap = 0
	for _, c := range []struct {
		name string
		l    []api.Conf
		out  choices
	}{
		{"none", nil, nil},
		{"a row", row(3), choices{{ownRoute(0)}, {ownRoute(1)}, {ownRoute(2)}}},
		{"one that may not be", bad, choices{{ownRoute(0)}, nil, {ownRoute(2)}}},
		{"too many", nine(), nil},
	} {
		if got := stable.First(c.l); !same(got, c.out) {
			t.Errorf("%s: %v", c.name, got)
		}
	}
	if got := stable.First(row(8)); len(got) != 8 {
		t.Errorf("of eight: %v", got)
	}
}

// P24.1
func TestNext(t *testing.T) {
	l := row(3)
	first := choices{{ownRoute(0)}, {ownRoute(1)}, {ownRoute(2)}}
	second := choices{
		{ownRoute(0), over(100, 65002, 0, 1)},
		{over(300, 0, 0, 0), ownRoute(1), over(100, 65003, 1, 2)},
		{over(300, 0, 0, 1), ownRoute(2)},
	}
	falling := choices{first[0], {ownRoute(2), ownRoute(1)}, first[2]}
	for _, c := range []struct {
		name string
		l    []api.Conf
		in   choices
		out  choices
	}{
		{"none", nil, nil, nil},
		{"none, but what they take", nil, first, nil},
		{"of nothing", l, nil, first},
		{"once", l, first, second},
		{"twice", l, second, rowTaken()},
		{"again", l, rowTaken(), rowTaken()},
		{"of the first one alone", l, first[:1], choices{{ownRoute(0)}, {over(300, 0, 0, 0), ownRoute(1)}, {ownRoute(2)}}},
		{"of more than there are", l, append(slices.Clone(first), first[0]), second},
		{"of what does not rise", l, falling, choices{{ownRoute(0)}, second[1], {ownRoute(2)}}},
		{"to nowhere", l[:2], rowTaken(), choices{rowTaken()[0], {over(300, 0, 0, 0), ownRoute(1)}}},
		{"too many", nine(), first, nil},
	} {
		old := slices.Clone(c.in)
		if got := stable.Next(c.l, c.in); !same(got, c.out) {
			t.Errorf("%s: %v, want %v", c.name, got, c.out)
		}
		if !same(c.in, old) {
			t.Errorf("%s: changed", c.name)
		}
	}
}

// P24.1: a node of the side's AS that has no side for the node does not tell it.
func TestNextWithoutAWayBack(t *testing.T) {
	stranger := topo.Gao(4, nil, []api.Link{{A: 3, B: 1, Rel: 3}})[3]
	l := append(row(3)[1:2], stranger)
	taken := choices{rowTaken()[1], nil}
	if got := stable.Next(l, taken); len(got) != 2 || len(got[1]) != 0 {
		t.Errorf("%v", got)
	}
	stranger.Sides[0].As = 65001
	if got := stable.Next(append(row(1), stranger), choices{{ownRoute(0)}}); len(got) != 2 || len(got[1]) != 0 {
		t.Errorf("of a node without sides: %v", got)
	}
}

// P24.1
func TestFixed(t *testing.T) {
	for _, c := range []struct {
		name string
		l    []api.Conf
		in   choices
		out  bool
	}{
		{"none", nil, nil, true},
		{"none, but what one takes", nil, choices{nil}, false},
		{"a row", row(3), rowTaken(), true},
		{"a row, first", row(3), stable.First(row(3)), false},
		{"of nothing", row(3), nil, false},
		{"fewer", row(3), rowTaken()[:2], false},
		{"more", row(3), append(rowTaken(), nil), false},
		{"one that takes nothing, and may not be", []api.Conf{{}}, choices{nil}, true},
		{"one that may not be is not told", []api.Conf{{}}, nil, false},
		{"too many", nine(), make(choices, 9), false},
		{"too many, of nothing", nine(), nil, false},
		{"nine that may not be", make([]api.Conf, 9), make(choices, 9), false},
		{"eight that may not be", make([]api.Conf, 8), make(choices, 8), true},
	} {
		if got := stable.Fixed(c.l, c.in); got != c.out {
			t.Errorf("%s: %v", c.name, got)
		}
	}
	other := rowTaken()
	other[2][0].R.P.As = []int{65002, 65009}
	if stable.Fixed(row(3), other) {
		t.Error("another way")
	}
}

// P24.2
func TestStable(t *testing.T) {
	if l, ok := stable.Stable(row(3)); !ok || !same(l, rowTaken()) {
		t.Errorf("of a row: %v %v", l, ok)
	}
	if l, ok := stable.Stable(nil); !ok || len(l) != 0 {
		t.Errorf("of none: %v %v", l, ok)
	}
	if l, ok := stable.Stable(nine()); ok || len(l) != 0 {
		t.Errorf("of too many: %v %v", l, ok)
	}
	if l, ok := stable.Stable(row(8)); !ok || len(l) != 8 || len(l[0]) != 8 || len(l[7]) != 8 {
		t.Errorf("of eight: %v %v", l, ok)
	}
	bad := row(3)
	bad[1].Cap = 0
	if l, ok := stable.Stable(bad); !ok || !same(l, choices{{ownRoute(0)}, nil, {ownRoute(2)}}) {
		t.Errorf("of one that may not be: %v %v", l, ok)
	}
	for _, steps := range []int{3, 4, 5} { // as many nodes as make a bound of both kinds of steps
		l := append(restless(), row(6)[3:steps]...)
		for i := 3; i < len(l); i++ {
			l[i].Sides = nil
		}
		want := stable.First(l)
		for range fair.Bound(len(l)) {
			if stable.Fixed(l, want) {
				t.Fatal("they agree")
			}
			want = stable.Next(l, want)
		}
		if same(want, stable.Next(l, want)) {
			t.Fatal("they agree")
		}
		if got, ok := stable.Stable(l); ok || !same(got, want) {
			t.Errorf("of those that never agree: %v %v, want %v", got, ok, want)
		}
	}
}

// P24.3
func TestHops(t *testing.T) {
	l := row(3)
	taken := rowTaken()
	for i, ways := range [][][]int{{{0}, {0, 1}, {0, 1, 2}}, {{1, 0}, {1}, {1, 2}}, {{2, 1, 0}, {2, 1}, {2}}} {
		for j, want := range ways {
			if got, ok := stable.Hops(l, taken, i, x(j)); !ok || !slices.Equal(got, want) {
				t.Errorf("from %d to %d: %v %v, want %v", i, j, got, ok, want)
			}
		}
	}
	lost := rowTaken()
	lost[1] = lost[1][1:]
	astray := rowTaken()
	astray[1][0].R.From = 5
	for _, c := range []struct {
		name string
		l    []api.Conf
		in   choices
		i    int
		x    api.Prefix
		out  []int
	}{
		{"another prefix", l, taken, 2, x(7), []int{2}},
		{"no choices", l, nil, 2, x(0), []int{2}},
		{"too few choices", l, taken[:1], 0, x(2), []int{0, 1}},
		{"one takes none", l, lost, 2, x(0), []int{2, 1}},
		{"a side leads nowhere", l[:2], taken, 0, x(2), []int{0, 1}},
		{"there is no such side", l, astray, 2, x(0), []int{2, 1}},
		{"no node", l, taken, 3, x(0), nil},
		{"node -1", l, taken, -1, x(0), nil},
		{"a node far off", l, taken, math.MaxInt, x(0), nil},
		{"none at all", nil, taken, 0, x(0), nil},
		{"too many", nine(), make(choices, 9), 8, x(0), nil},
		{"too many, its own", nine(), slices.Repeat(choices{{ownRoute(0)}}, 9), 0, x(0), nil},
	} {
		if got, ok := stable.Hops(c.l, c.in, c.i, c.x); ok || !slices.Equal(got, c.out) {
			t.Errorf("%s: %v %v", c.name, got, ok)
		}
	}
}

// P24.3: no more than 8 nodes.
func TestHopsInARing(t *testing.T) {
	ring := choices{{over(100, 0, 0, 1)}, {over(100, 0, 0, 1)}}
	l := row(2)
	if got, ok := stable.Hops(l, ring, 0, x(1)); ok || !slices.Equal(got, []int{0, 1, 0, 1, 0, 1, 0, 1}) {
		t.Errorf("round and round: %v %v", got, ok)
	}
	eight, ok := stable.Stable(row(8))
	if got, all := stable.Hops(row(8), eight, 0, x(7)); !ok || !all || !slices.Equal(got, []int{0, 1, 2, 3, 4, 5, 6, 7}) {
		t.Errorf("over all: %v %v", got, all)
	}
}

// The chapter's example.
func TestExample(t *testing.T) {
	l := topo.Gao(3, own()[:1], []api.Link{{A: 1, B: 0, Rel: 1}, {A: 1, B: 2, Rel: 1}})
	taken, ok := stable.Stable(l)
	hops, all := stable.Hops(l, taken, 2, x(0))
	if !ok || !all || !slices.Equal(hops, []int{2, 1, 0}) {
		t.Errorf("%v %v", taken, hops)
	}
}

// rules are some of a list, at random, that are for what comes in, or goes out.
func rules(r *rand.Rand, base []api.Rule, in bool) []api.Rule {
	var l []api.Rule
	for range r.Intn(3) {
		rule := api.Rule{Match: r.Intn(4)}
		switch rule.Match {
		case 1:
			rule.X = []api.Prefix{x(0), x(1), {A: 8 << 24, N: 5}}[r.Intn(3)]
		case 2:
			rule.V = 65001 + r.Intn(5)
		case 3:
			rule.V = r.Intn(4)
		}
		if r.Intn(3) > 0 && in {
			rule.Act, rule.N = 2, base[0].N-r.Intn(4)
		} else if r.Intn(3) > 0 && !in {
			rule.Act, rule.N = 3, 1+r.Intn(2)
		}
		l = append(l, rule)
	}
	return append(l, base...)
}

// good are nodes that go together, at random: some take and tell just as customers, peers and providers do, others have rules of their own.
func good(r *rand.Rand, most int) []api.Conf {
	for {
		n := 2 + r.Intn(most-1)
		var links []api.Link
		for range n + r.Intn(n) {
			links = append(links, api.Link{A: r.Intn(n), B: r.Intn(n), Rel: 1 + r.Intn(3)})
		}
		prefixes := own()
		if r.Intn(2) == 0 {
			prefixes[1] = prefixes[0] // two have the same one
		}
		l := topo.Gao(n, prefixes, links)
		if r.Intn(2) == 0 {
			i := r.Intn(n)
			for k, s := range l[i].Sides {
				l[i].Sides[k].In = rules(r, s.In, true)
				l[i].Sides[k].Out = rules(r, s.Out, false)
			}
		}
		if _, e := topo.Check(l); e == api.OK {
			return l
		}
	}
}

// taking are choices at random: of the nodes' own routes, and of what they might be told.
func taking(r *rand.Rand, l []api.Conf) choices {
	list := make(choices, len(l))
	for i, c := range l {
		for j := range l {
			if len(c.Sides) == 0 || r.Intn(2) == 0 {
				continue
			}
			k := r.Intn(len(c.Sides))
			p := api.Path{As: []int{c.Sides[k].As, 65001 + j}, Hop: 9}
			if route, ok := edge.In(c, k, x(j), p); ok {
				list[i] = append(list[i], api.Choice{X: x(j), R: route})
			}
		}
	}
	return list
}

// P24.4: of nodes that go together there is one Fixed only, whatever one begins with; by its routes one comes to who has the prefix, and to no node twice.
func TestOneOnly(t *testing.T) {
	r := rand.New(rand.NewSource(8))
	ways, taken := 0, 0
	for range 150 {
		l := good(r, 6)
		want, ok := stable.Stable(l)
		if !ok || !stable.Fixed(l, want) {
			t.Fatalf("%v do not agree", l)
		}
		for range 3 {
			got := taking(r, l)
			for range fair.Bound(len(l)) {
				got = stable.Next(l, got)
			}
			if !same(got, want) {
				t.Fatalf("of %v another one: %v, %v", l, got, want)
			}
		}
		for i := range l {
			for _, c := range want[i] {
				taken++
				hops, all := stable.Hops(l, want, i, c.X)
				if !all || hops[0] != i || !slices.Contains(l[hops[len(hops)-1]].Own, c.X) {
					t.Fatalf("of %v from %d to %v: %v", l, i, c.X, hops)
				}
				if slices.Sort(hops); len(slices.Compact(slices.Clone(hops))) != len(hops) {
					t.Fatalf("of %v from %d to %v twice to one of %v", l, i, c.X, hops)
				}
				if len(hops) > 2 {
					ways++
				}
			}
		}
	}
	if ways < 100 {
		t.Errorf("%d ways over three nodes or more, of %d", ways, taken)
	}
}
