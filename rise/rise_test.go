package rise_test

import (
	"math"
	"slices"
	"testing"

	"ridgeway/api"
	"ridgeway/conf"
	"ridgeway/edge"
	"ridgeway/rise"
	"ridgeway/route"
)

func pref(n int) api.Rule { return api.Rule{Act: 2, N: n} }

// of is a rule for routes of a class.
func of(class, act, n int) api.Rule { return api.Rule{Match: 4, V: class, Act: act, N: n} }

// has is a rule for routes over an AS.
func has(as, act, n int) api.Rule { return api.Rule{Match: 2, V: as, Act: act, N: n} }

func side(as, rel int, in, out []api.Rule) api.Side {
	return api.Side{As: as, Rel: rel, In: in, Out: out}
}

func node(as int, sides ...api.Side) api.Conf {
	return api.Conf{As: as, Id: as, Hold: 90, Cap: 100, Sides: sides}
}

type rules = []api.Rule

// P15.1
func TestSide(t *testing.T) {
	c := node(100, side(11, 1, nil, nil), side(12, 2, nil, nil), side(13, 3, nil, nil), side(12, 1, nil, nil))
	for as, want := range map[int]int{11: 0, 12: 1, 13: 2} {
		if k, ok := rise.Side(c, as); k != want || !ok {
			t.Errorf("Side of %d = %d %v", as, k, ok)
		}
	}
	for _, as := range []int{0, 100, 14, -11, math.MaxInt} {
		if k, ok := rise.Side(c, as); k != 0 || ok {
			t.Errorf("Side of %d = %d %v", as, k, ok)
		}
	}
	if k, ok := rise.Side(api.Conf{}, 0); k != 0 || ok {
		t.Errorf("Side of nothing = %d %v", k, ok)
	}
}

// P15.1
func TestLow(t *testing.T) {
	for _, x := range []struct {
		name  string
		c     api.Conf
		class int
		low   int
		ok    bool
	}{
		{"Own", node(1, side(2, 1, rules{pref(7)}, nil)), 0, 400, true},
		{"Own of nothing", api.Conf{}, 0, 400, true},
		{"Customer", node(1, side(2, 1, rules{pref(7)}, nil)), 1, 7, true},
		{"Peer, but there is none", node(1, side(2, 1, rules{pref(7)}, nil)), 2, 0, false},
		{"the least of two sides", node(1, side(2, 1, rules{pref(7)}, nil), side(3, 1, rules{pref(5)}, nil), side(4, 2, rules{pref(1)}, nil)), 1, 5, true},
		{"the least of two sides, the other way round", node(1, side(2, 1, rules{pref(5)}, nil), side(3, 1, rules{pref(7)}, nil)), 1, 5, true},
		{"the least of several rules", node(1, side(2, 3, rules{has(5, 2, 30), has(6, 2, 20), pref(40)}, nil)), 3, 20, true},
		{"rejects", node(1, side(2, 3, rules{has(5, 0, 0), {}}, nil)), 3, 0, false},
		{"rejects, but one", node(1, side(2, 3, rules{has(5, 2, 9), {}}, nil)), 3, 9, true},
		{"behind one that is total", node(1, side(2, 2, rules{pref(50), pref(3)}, nil)), 2, 50, true},
		{"behind one that rejects all", node(1, side(2, 2, rules{{}, pref(3)}, nil)), 2, 0, false},
		{"no rules", node(1, side(2, 2, nil, nil)), 2, 0, false},
		{"another class' rule", node(1, side(2, 2, rules{of(1, 2, 3), of(2, 2, 9), pref(1)}, nil)), 2, 9, true},
		{"another act", node(1, side(2, 2, rules{has(5, 3, 1), has(5, 1, 1), pref(9)}, nil)), 2, 9, true},
		{"class that is none", node(1, side(2, 2, rules{pref(8)}, nil)), -1, 0, false},
	} {
		if low, ok := rise.Low(x.c, x.class); low != x.low || ok != x.ok {
			t.Errorf("%s: %d %v", x.name, low, ok)
		}
	}
}

// P15.1
func TestHigh(t *testing.T) {
	c := node(1,
		side(2, 1, rules{has(5, 2, 30), has(6, 2, 50), pref(40)}, nil),
		side(3, 2, rules{pref(7), pref(399)}, nil),
		side(4, 3, rules{{}, pref(3)}, nil),
		side(5, 3, nil, nil),
		side(6, 3, rules{of(1, 2, 90), has(1, 3, 80), of(3, 2, 9), pref(100)}, nil),
	)
	for _, x := range []struct {
		k, high int
		ok      bool
	}{{0, 50, true}, {1, 7, true}, {2, 0, false}, {3, 0, false}, {4, 9, true}, {5, 0, false}, {-1, 0, false}, {math.MaxInt, 0, false}, {math.MinInt, 0, false}} {
		if high, ok := rise.High(c, x.k); high != x.high || ok != x.ok {
			t.Errorf("High of side %d = %d %v", x.k, high, ok)
		}
	}
}

// P15.1
func TestTells(t *testing.T) {
	c := node(1,
		side(2, 1, nil, rules{{Act: 1}}),
		side(3, 2, nil, rules{of(0, 1, 0), of(1, 3, 2), {}}),
		side(4, 3, nil, rules{has(5, 0, 0), {}, {Act: 1}}),
		side(5, 3, nil, nil),
		side(6, 3, nil, rules{of(2, 0, 0), has(7, 3, 1), {}}),
		side(7, 3, nil, rules{has(7, 9, 0)}),
	)
	for k, want := range [][]bool{{true, true, true, true}, {true, true, false, false}, {false, false, false, false}, {false, false, false, false}, {true, true, false, true}, {true, true, true, true}, {false, false, false, false}} {
		for class, tells := range want {
			if got := rise.Tells(c, k, class); got != tells {
				t.Errorf("Tells(%d, %d) = %v", k, class, got)
			}
		}
	}
	for _, k := range []int{-1, 7, math.MaxInt, math.MinInt} {
		if rise.Tells(c, k, 0) {
			t.Errorf("side %d is told", k)
		}
	}
	if !rise.Tells(c, 0, 77) || rise.Tells(c, 1, -1) {
		t.Error("of classes that there are not")
	}
}

// P15.2
func TestRises(t *testing.T) {
	all := rules{{Act: 1}}
	gao := rules{of(0, 1, 0), of(1, 1, 0)}
	// a has a customer with 300, a peer with 200, and b; what is told to b is out.
	a := func(rel int, out rules) api.Conf {
		return node(10, side(11, 1, rules{pref(300)}, all), side(12, 2, rules{pref(200)}, all), side(20, rel, rules{pref(150)}, out))
	}
	b := func(in ...api.Rule) api.Conf { return node(20, side(30, 1, nil, nil), side(10, 2, in, all)) }
	bad := b(pref(300))
	bad.Id = 0
	badA := a(2, gao)
	badA.Cap = 0
	for _, x := range []struct {
		name string
		a, b api.Conf
		out  bool
	}{
		{"as good as the least", a(2, gao), b(pref(300)), true},
		{"worse", a(2, gao), b(pref(1)), true},
		{"better", a(2, gao), b(pref(301)), false},
		{"better by 10", a(2, gao), b(pref(310)), false},
		{"own alone", a(2, rules{of(0, 1, 0)}), b(pref(399)), true},
		{"nothing is told", a(2, rules{{}}), b(pref(399)), true},
		{"no rule of what is told", a(2, nil), b(pref(399)), true},
		{"nothing is taken", a(2, all), b(api.Rule{}), true},
		{"no rule of what is taken", a(2, all), b(), true},
		{"peers' are told, too", a(1, rules{of(0, 1, 0), of(2, 1, 0)}), b(pref(200)), true},
		{"peers' are told, too, and better", a(1, rules{of(0, 1, 0), of(2, 1, 0)}), b(pref(201)), false},
		{"b's own way counts, too", a(2, all), b(pref(151)), false},
		{"b's own way counts, as good", a(2, all), b(pref(150)), true},
		{"of Provider, there is none", a(2, rules{of(3, 1, 0)}), b(pref(399)), true},
		{"of Provider", a(3, rules{of(3, 1, 0)}), b(pref(151)), false},
		{"one rule is better", a(2, gao), b(has(7, 2, 301), pref(1)), false},
		{"a better one behind", a(2, gao), b(pref(1), pref(301)), true},
		{"a may not be", badA, b(pref(1)), false},
		{"b may not be", a(2, gao), bad, false},
		{"a is not b's", a(2, gao), node(20, side(30, 1, rules{pref(1)}, nil)), false},
		{"b is not a's", node(10, side(11, 1, rules{pref(300)}, all)), b(pref(1)), false},
		{"nothing", api.Conf{}, api.Conf{}, false},
		{"nothing to b", api.Conf{}, b(pref(1)), false},
	} {
		if got := rise.Rises(x.a, x.b); got != x.out {
			t.Errorf("%s: Rises = %v", x.name, got)
		}
	}
}

// P15.3: of ways that rise each route that a node has is worse to the other one, or nothing; and where a route became better, the way did not rise.
func TestRoutesBecomeWorse(t *testing.T) {
	x := api.Prefix{A: 10 << 24, N: 8}
	ins := []rules{nil, {pref(100)}, {pref(200)}, {has(11, 2, 250), pref(150)}, {{}, pref(390)}, {has(12, 0, 0), pref(300)}, {{Match: 3, V: 1, Act: 2, N: 120}, pref(50)}}
	outs := []rules{nil, {{Act: 1}}, {of(0, 1, 0), of(1, 3, 1)}, {has(11, 0, 0), {Act: 3, N: 2}}, {of(2, 1, 0), of(3, 1, 0)}}
	rose, fell := 0, 0
	for _, in := range ins {
		for _, out := range outs {
			for _, take := range ins {
				for rel := 1; rel <= 3; rel++ {
					a := node(10, side(11, 1, in, nil), side(12, 3, in, nil), side(20, rel, nil, out))
					b := node(20, side(10, 4-rel, take, nil))
					if !conf.Sane(a) || !conf.Sane(b) {
						t.Fatal("a node that may not be")
					}
					rises := rise.Rises(a, b)
					for _, r := range routes(a, x) {
						told, ok := edge.Out(a, 2, x, r)
						if !ok {
							continue
						}
						got, ok := edge.In(b, 0, x, told)
						if !ok {
							continue
						}
						worse := route.Compare(r, got) < 0
						if rises && !worse {
							t.Fatalf("%v to %v: %v becomes %v", a, b, r, got)
						}
						if rises {
							rose++
						} else if !worse {
							fell++
						}
					}
				}
			}
		}
	}
	if rose < 100 || fell < 10 {
		t.Errorf("%d ways on which a route becomes worse, %d on which one does not", rose, fell)
	}
}

// routes are those that a may have: its own, and what sides 0 and 1 tell.
func routes(a api.Conf, x api.Prefix) []api.Route {
	l := []api.Route{route.Own(a.Id)}
	for k, as := range []int{11, 12} {
		for _, more := range [][]int{nil, {9}, {9, 8}} {
			if r, ok := edge.In(a, k, x, api.Path{As: slices.Concat([]int{as}, more), Hop: 5}); ok {
				l = append(l, r)
			}
		}
	}
	return l
}
