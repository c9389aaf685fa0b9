package topo_test

import (
	"math"
	"math/rand"
	"slices"
	"testing"

	"ridgeway/api"
	"ridgeway/conf"
	"ridgeway/topo"
)

func p(a, b, c, d, n int) api.Prefix {
	return api.Prefix{A: a<<24 | b<<16 | c<<8 | d, N: n}
}

// node has sides of some ASes, by what they are.
func node(as int, sides ...[2]int) api.Conf {
	c := api.Conf{As: as, Id: as, Hold: 90, Cap: 100}
	for _, s := range sides {
		c.Sides = append(c.Sides, api.Side{As: s[0], Rel: s[1]})
	}
	return c
}

// some are three nodes that know each other; 30 is a customer of 20, and 20 one of 10.
func some() []api.Conf {
	return []api.Conf{node(10, [2]int{30, 1}, [2]int{20, 1}), node(20, [2]int{10, 3}, [2]int{30, 1}), node(30, [2]int{20, 3}, [2]int{10, 3})}
}

// P16.1
func TestFind(t *testing.T) {
	l := append(some(), node(20), node(40))
	for as, want := range map[int]int{10: 0, 20: 1, 30: 2, 40: 4} {
		if i, ok := topo.Find(l, as); i != want || !ok {
			t.Errorf("Find(%d) = %d %v", as, i, ok)
		}
	}
	for _, as := range []int{0, 11, -10, math.MaxInt} {
		if i, ok := topo.Find(l, as); i != 0 || ok {
			t.Errorf("Find(%d) = %d %v", as, i, ok)
		}
	}
	if i, ok := topo.Find(nil, 0); i != 0 || ok {
		t.Errorf("Find among none = %d %v", i, ok)
	}
}

// P16.1
func TestFar(t *testing.T) {
	l := append(some(), node(40, [2]int{10, 3}, [2]int{50, 1}, [2]int{60, 1}), node(50, [2]int{9, 1}, [2]int{40, 3}, [2]int{40, 3}), node(40), node(60, [2]int{60, 1}))
	l[1].Sides = append(l[1].Sides, api.Side{As: 99, Rel: 1})
	for _, x := range []struct {
		i, k, j, m int
		ok         bool
	}{
		{0, 0, 2, 1, true}, {0, 1, 1, 0, true}, {1, 0, 0, 1, true}, {1, 1, 2, 0, true}, {2, 0, 1, 1, true}, {2, 1, 0, 0, true},
		{1, 2, 0, 0, false}, // there is no 99
		{3, 0, 0, 0, false}, // 10 has no side for 40
		{3, 1, 4, 1, true},  // the first of two
		{3, 2, 0, 0, false}, // 60 has no side for 40
		{4, 0, 0, 0, false}, // there is no 9
		{4, 1, 3, 1, true},  // the first one of 40
		{4, 2, 3, 1, true},
		{6, 0, 6, 0, true}, // itself
		{0, 2, 0, 0, false}, {0, -1, 0, 0, false}, {-1, 0, 0, 0, false}, {7, 0, 0, 0, false}, {5, 0, 0, 0, false},
		{math.MaxInt, 0, 0, 0, false}, {0, math.MaxInt, 0, 0, false}, {math.MinInt, math.MinInt, 0, 0, false},
	} {
		if j, m, ok := topo.Far(l, x.i, x.k); j != x.j || m != x.m || ok != x.ok {
			t.Errorf("Far(%d, %d) = %d %d %v", x.i, x.k, j, m, ok)
		}
	}
}

// P16.2
func TestRing(t *testing.T) {
	up := func(as int, providers ...int) api.Conf {
		c := api.Conf{As: as, Sides: []api.Side{{As: 77, Rel: 3}, {As: as + 1, Rel: 1}, {As: 1, Rel: 2}, {As: 2, Rel: 0}}}
		for _, q := range providers {
			c.Sides = append(c.Sides, api.Side{As: q, Rel: 3})
		}
		return c
	}
	for _, x := range []struct {
		name string
		l    []api.Conf
		i    int
		ok   bool
	}{
		{"none", nil, 0, false},
		{"one", []api.Conf{up(1)}, 0, false},
		{"its own", []api.Conf{up(1, 1)}, 0, true},
		{"a row", []api.Conf{up(1, 2), up(2, 3), up(3)}, 0, false},
		{"two", []api.Conf{up(1, 2), up(2, 1)}, 0, true},
		{"three", []api.Conf{up(9), up(1, 2), up(2, 3), up(3, 1)}, 1, true},
		{"towards a ring", []api.Conf{up(1, 2), up(2, 3), up(3, 4), up(4, 3)}, 2, true},
		{"out of a ring", []api.Conf{up(1), up(2, 3), up(3, 2, 1)}, 1, true},
		{"a diamond", []api.Conf{up(1, 2, 3), up(2, 4), up(3, 4), up(4)}, 0, false},
		{"two rings", []api.Conf{up(5), up(4, 3), up(3, 4), up(2, 1), up(1, 2)}, 1, true},
		{"between two rings", []api.Conf{up(1, 2), up(2, 3), up(3, 4), up(4, 5, 3), up(5, 4), up(6, 6)}, 2, true},
		{"the way back by the second provider", []api.Conf{up(1, 9, 2), up(2, 9, 3), up(3, 9, 1), up(9)}, 0, true},
		{"one AS twice", []api.Conf{up(1), up(2, 1), up(1, 2)}, 0, false},
		{"one AS twice, the first one", []api.Conf{up(1, 2), up(2, 1), up(1)}, 0, true},
	} {
		if i, ok := topo.Ring(x.l); i != x.i || ok != x.ok {
			t.Errorf("%s: %d %v", x.name, i, ok)
		}
	}
}

// P16.2: held against all ways, of nodes at random.
func TestRingOfManyNodes(t *testing.T) {
	r := rand.New(rand.NewSource(1))
	rings := 0
	for range 2000 {
		n := 1 + r.Intn(9)
		l := make([]api.Conf, n)
		reach := make([][]bool, n)
		for i := range l {
			l[i].As = 10 + i
			reach[i] = make([]bool, n)
		}
		for range r.Intn(n + 2) {
			a, b, rel := r.Intn(n), r.Intn(n), 1+r.Intn(3)
			l[a].Sides = append(l[a].Sides, api.Side{As: 10 + b, Rel: rel})
			reach[a][b] = reach[a][b] || rel == 3
		}
		for k := range n {
			for i := range n {
				for j := range n {
					reach[i][j] = reach[i][j] || reach[i][k] && reach[k][j]
				}
			}
		}
		want, ring := 0, false
		for i := n - 1; i >= 0; i-- {
			if reach[i][i] {
				want, ring = i, true
			}
		}
		if i, ok := topo.Ring(l); i != want || ok != ring {
			t.Fatalf("%v: %d %v, want %d %v", l, i, ok, want, ring)
		}
		if ring {
			rings++
		}
	}
	if rings < 200 || rings > 1800 {
		t.Errorf("%d rings", rings)
	}
}

// good are nodes with which nothing is wrong: 0 is the provider of 1 and 2, which are peers; 3 is the customer of both.
func good() []api.Conf {
	return topo.Gao(4, []api.Prefix{p(10, 0, 0, 0, 16)}, []api.Link{{A: 0, B: 1, Rel: 1}, {A: 2, B: 0, Rel: 3}, {A: 1, B: 2, Rel: 2}, {A: 3, B: 1, Rel: 3}, {A: 2, B: 3, Rel: 1}})
}

// P16.3
func TestCheck(t *testing.T) {
	type L = []api.Conf
	form := func(i int) func(l L) L { return func(l L) L { l[i].Cap = 0; return l } }
	sameAs := func(l L) L { l[3].As = l[0].As; return l }
	sameId := func(l L) L { l[2].Id = l[1].Id; return l }
	nowhere := func(i int) func(l L) L { return func(l L) L { l[i].Sides[1].As = 9; return l } }
	role := func(l L) L { l[1].Sides[1].Rel = 3; return l }
	rise := func(i int) func(l L) L { return func(l L) L { l[i].Sides[0].In[0].N = 399; return l } }
	for _, x := range []struct {
		name    string
		changes []func(l L) L
		i       int
		e       api.Errno
	}{
		{"good", nil, 0, api.OK},
		{"none", []func(l L) L{func(l L) L { return nil }}, 0, api.ErrShort},
		{"nine", []func(l L) L{form(1), func(l L) L { return append(append(l, l...), l[0]) }}, 0, api.ErrMany},
		{"one", []func(l L) L{func(l L) L { return L{node(7)} }}, 0, api.OK},
		{"one that may not be", []func(l L) L{form(3)}, 3, api.ErrForm},
		{"two that may not be", []func(l L) L{form(3), form(2)}, 2, api.ErrForm},
		{"one that may not be behind other things", []func(l L) L{form(3), nowhere(0), role}, 3, api.ErrForm},
		{"one AS twice", []func(l L) L{sameAs}, 3, api.ErrUsed},
		{"one Id twice", []func(l L) L{sameId}, 2, api.ErrUsed},
		{"both", []func(l L) L{sameId, sameAs}, 2, api.ErrUsed},
		{"one Id twice behind a side that leads nowhere", []func(l L) L{sameId, nowhere(0)}, 2, api.ErrUsed},
		{"no such AS", []func(l L) L{nowhere(3)}, 2, api.ErrNone}, // 3 has no side for 2 any more
		{"no such AS at 0", []func(l L) L{nowhere(0)}, 0, api.ErrNone},
		{"no side there", []func(l L) L{func(l L) L { l[3].Sides = l[3].Sides[:1]; return l }}, 2, api.ErrNone},
		{"another AS's side", []func(l L) L{func(l L) L { l[3].Sides = nil; return l }}, 1, api.ErrNone},
		{"a side to nowhere ahead of roles", []func(l L) L{role, nowhere(2)}, 1, api.ErrNone},
		{"roles", []func(l L) L{role}, 1, api.ErrRole},
		{"roles, seen from the least", []func(l L) L{func(l L) L { l[3].Sides[0].Rel = 2; return l }}, 1, api.ErrRole},
		{"two customers", []func(l L) L{func(l L) L { l[3].Sides[0].Rel = 1; return l }}, 1, api.ErrRole},
		{"two providers", []func(l L) L{func(l L) L { l[0].Sides[0].Rel = 3; return l }}, 0, api.ErrRole},
		{"a customer and a peer", []func(l L) L{func(l L) L { l[2].Sides[0].Rel = 2; return l }}, 0, api.ErrRole},
		{"roles ahead of ways", []func(l L) L{role, rise(0)}, 1, api.ErrRole},
		{"a way that does not rise, to 1", []func(l L) L{rise(1)}, 0, api.ErrRise},
		{"a way that does not rise, to 3", []func(l L) L{rise(3)}, 1, api.ErrRise},
		{"a way that does not rise, to 0", []func(l L) L{rise(0), func(l L) L { l[1].Sides[2].In[0].N = 250; return l }}, 1, api.ErrRise},
		{"a way that rises more", []func(l L) L{func(l L) L { l[3].Sides[0].In[0].N = 1; return l }}, 0, api.OK},
	} {
		l := good()
		for _, change := range x.changes {
			l = change(l)
		}
		if i, e := topo.Check(l); i != x.i || e != x.e {
			t.Errorf("%s: %d %v, want %d %v", x.name, i, e, x.i, x.e)
		}
	}
}

// P16.3: providers in a ring are told last.
func TestCheckOfRings(t *testing.T) {
	ring := topo.Gao(5, nil, []api.Link{{A: 0, B: 1, Rel: 3}, {A: 1, B: 2, Rel: 3}, {A: 2, B: 3, Rel: 3}, {A: 3, B: 1, Rel: 3}})
	if i, e := topo.Check(ring); i != 1 || e != api.ErrRing {
		t.Errorf("a ring: %d %v", i, e)
	}
	ring[4].Sides = append(ring[4].Sides, api.Side{As: 9, Rel: 1})
	if i, e := topo.Check(ring); i != 4 || e != api.ErrNone {
		t.Errorf("a ring, and a side that leads nowhere: %d %v", i, e)
	}
	eight := topo.Gao(8, nil, []api.Link{{A: 7, B: 6, Rel: 3}})
	if i, e := topo.Check(eight); i != 0 || e != api.OK {
		t.Errorf("eight: %d %v", i, e)
	}
}

// P16.3: the chapter's example.
func TestCheckOfTwoPeers(t *testing.T) {
	for pref, e := range map[int]api.Errno{300: api.OK, 310: api.ErrRise} {
		l := topo.Gao(4, nil, []api.Link{{A: 0, B: 1, Rel: 2}, {A: 0, B: 2, Rel: 1}, {A: 1, B: 3, Rel: 1}})
		l[0].Sides[0].In[0].N, l[1].Sides[0].In[0].N = pref, pref
		if i, got := topo.Check(l); i != 0 || got != e {
			t.Errorf("of %d: %d %v", pref, i, got)
		}
	}
}

// P16.4
func TestGao(t *testing.T) {
	own := []api.Prefix{p(10, 0, 0, 0, 16), p(10, 0, 0, 1, 8), {}, p(9, 0, 0, 0, 8)}
	for n, size := range map[int]int{-5: 1, 0: 1, 1: 1, 3: 3, 8: 8, 9: 8, math.MaxInt: 8, math.MinInt: 1} {
		l := topo.Gao(n, own, nil)
		if len(l) != size {
			t.Errorf("Gao of %d has %d nodes", n, len(l))
		}
		for i, c := range l {
			want := api.Conf{As: 65001 + i, Id: 0x0a000001 + i, Hold: 90, Cap: 1000}
			if i < len(own) && i != 1 {
				want.Own = own[i : i+1]
			}
			if !conf.Same(c, want) {
				t.Errorf("Gao of %d: node %d is %v", n, i, c)
			}
		}
	}
	accept := []api.Rule{{Act: 1}}
	own1 := []api.Rule{{Match: 4, Act: 1}, {Match: 4, V: 1, Act: 1}}
	pref := func(n int) []api.Rule { return []api.Rule{{Act: 2, N: n}} }
	want := []api.Conf{
		{As: 65001, Id: 0x0a000001, Hold: 90, Cap: 1000, Own: own[:1], Sides: []api.Side{{As: 65002, Rel: 1, In: pref(300), Out: accept}, {As: 65003, Rel: 2, In: pref(200), Out: own1}}},
		{As: 65002, Id: 0x0a000002, Hold: 90, Cap: 1000, Sides: []api.Side{{As: 65001, Rel: 3, In: pref(100), Out: own1}, {As: 65003, Rel: 3, In: pref(100), Out: own1}}},
		{As: 65003, Id: 0x0a000003, Hold: 90, Cap: 1000, Own: own[2:3], Sides: []api.Side{{As: 65001, Rel: 2, In: pref(200), Out: own1}, {As: 65002, Rel: 1, In: pref(300), Out: accept}}},
	}
	links := []api.Link{
		{A: 0, B: 3, Rel: 1}, {A: 3, B: 0, Rel: 1}, {A: -1, B: 0, Rel: 1}, {A: 0, B: -1, Rel: 1}, {A: 1, B: 1, Rel: 1}, {A: 0, B: 1, Rel: 0}, {A: 0, B: 1, Rel: 4}, {A: 0, B: 1, Rel: -1}, {A: math.MaxInt, B: math.MinInt, Rel: 2},
		{A: 0, B: 1, Rel: 1}, {A: 0, B: 1, Rel: 2}, {A: 1, B: 0, Rel: 2}, {A: 2, B: 0, Rel: 2}, {A: 1, B: 2, Rel: 3}, {A: 0, B: 2, Rel: 1},
	}
	old := slices.Clone(links)
	got := topo.Gao(3, own, links)
	if !slices.EqualFunc(got, want, conf.Same) {
		t.Errorf("Gao = %v, want %v", got, want)
	}
	if !slices.Equal(links, old) || own[1] != p(10, 0, 0, 1, 8) {
		t.Error("what is handed in is changed")
	}
}

// P16.5: Gao's nodes go together, if there is no ring; of links at random.
func TestGaoGoesTogether(t *testing.T) {
	r := rand.New(rand.NewSource(2))
	var good, rings int
	for range 3000 {
		n := 1 + r.Intn(8)
		var links []api.Link
		for range r.Intn(4 * n) {
			links = append(links, api.Link{A: r.Intn(n), B: r.Intn(n), Rel: 1 + r.Intn(3)})
		}
		own := []api.Prefix{p(10, 0, 0, 0, 16), {N: 40}, p(10, 0, 0, 0, 16)}
		l := topo.Gao(n, own, links)
		i, e := topo.Check(l)
		ring, there := topo.Ring(l)
		switch {
		case there && (i != ring || e != api.ErrRing), !there && (i != 0 || e != api.OK):
			t.Fatalf("of %v: %d %v", links, i, e)
		case there:
			rings++
		default:
			good++
		}
	}
	if good < 500 || rings < 100 {
		t.Errorf("%d good ones, %d rings", good, rings)
	}
	var all []api.Link
	for a := range 8 {
		for b := range a {
			all = append(all, api.Link{A: a, B: b, Rel: 2 + a%2})
		}
	}
	if i, e := topo.Check(topo.Gao(8, nil, all)); i != 0 || e != api.OK {
		t.Errorf("all linked: %d %v", i, e)
	}
}
