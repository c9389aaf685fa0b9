package stable_test

import (
	"bytes"
	"math/rand"
	"testing"

	"ridgeway/api"
	"ridgeway/conf"
	"ridgeway/decide"
	"ridgeway/edge"
	"ridgeway/fair"
	"ridgeway/msg"
	"ridgeway/net"
	"ridgeway/open"
	"ridgeway/ribin"
	"ridgeway/route"
	"ridgeway/session"
	"ridgeway/speaker"
	"ridgeway/stable"
	"ridgeway/topo"
	"ridgeway/update"
)

// Promises of the whole program.

// W1: octets that are otherwise than they were told end a session with a note, or leave a node that may be.
func TestWholeOctets(t *testing.T) {
	c := row(2)[1]
	begin := msg.Put(msg.Put(nil, open.Put(api.Hello{As: 65001, Hold: 90, Id: 7, Role: 3})), api.Msg{Type: api.Alive})
	news := update.Put(api.News{Gone: []api.Prefix{x(5)}, P: api.Path{As: []int{65001, 9}, Hop: 7}, Nlri: []api.Prefix{x(0), {A: 10 << 24, N: 8}}})
	b := msg.Put(begin, news)
	started, _ := speaker.Start(speaker.New(c), 0)
	whole, _ := speaker.Feed(started, 0, b)
	if whole.S[0].State != session.Up || len(speaker.Loc(whole)) != 3 {
		t.Fatalf("%v", whole)
	}
	ended, kept := 0, 0
	for at := range b {
		for _, o := range []byte{0, 1, 2, 4, 33, 64, 255} {
			other := bytes.Clone(b)
			other[at] = o
			n, told := speaker.Feed(started, 0, other)
			if !speaker.Sane(n) {
				t.Fatalf("octet %d is %d: %v may not be", at, o, n)
			}
			if n.S[0].State != session.Idle {
				kept++
				continue
			}
			ended++
			last := api.Msg{}
			for len(told) > 0 {
				m, size, _ := msg.Get(told)
				last, told = m, told[max(size, 1):]
			}
			if last.Type != api.Notice {
				t.Fatalf("octet %d is %d: the last one told is %v", at, o, last)
			}
		}
	}
	if ended < 100 || kept < 100 {
		t.Errorf("%d ended, %d did not", ended, kept)
	}
}

// script is one at random: what is on its way is delivered, by pieces too, and told; sessions are ended and begun, if that is wanted.
func script(r *rand.Rand, l []api.Conf, size int, ends bool) []api.Op {
	var s []api.Op
	for range size {
		a := r.Intn(len(l))
		if len(l[a].Sides) == 0 {
			continue
		}
		o := api.Op{K: []int{net.Deliver, net.Deliver, net.Tell}[r.Intn(3)], A: a, B: r.Intn(len(l[a].Sides)), N: r.Intn(80)}
		switch {
		case r.Intn(3) == 0:
			o.N = fair.All
		case ends && r.Intn(3) == 0:
			o.K = []int{net.Begin, net.Begin, net.Reset, net.Pass}[r.Intn(4)]
		}
		s = append(s, o)
	}
	return s
}

// W2: what was told and is not on its way any more is what the other one was told.
func TestWholeNodes(t *testing.T) {
	r := rand.New(rand.NewSource(9))
	held := 0
	for range 40 {
		l := good(r, 4)
		n := fair.Join(net.New(l))
		for _, o := range script(r, l, 80, true) {
			n = net.Do(n, o)
			for i := range l {
				for k := range l[i].Sides {
					j, m, ok := topo.Far(l, i, k)
					if !ok || n.N[i].S[k].State != session.Up || n.N[j].S[m].State != session.Up || len(n.Q[i][k])+len(n.N[j].Buf[m]) > 0 {
						continue
					}
					if !ribin.Same(n.N[i].Out[k], n.N[j].In[m]) {
						t.Fatalf("%d told %v, and %d was told %v", i, n.N[i].Out[k], j, n.N[j].In[m])
					}
					if len(n.N[i].Out[k]) > 0 {
						held++
					}
				}
			}
		}
	}
	if held < 500 {
		t.Errorf("only %d tables", held)
	}
}

// injected is a script with octets on their way that no node told: news, or what is no message.
func injected(r *rand.Rand, s []api.Op) []api.Op {
	news := update.Put(api.News{P: api.Path{As: []int{65001, 9}, Hop: 7}, Nlri: []api.Prefix{x(0), x(9)}})
	for i := range s {
		if r.Intn(10) == 0 {
			s[i].K, s[i].Data = net.Inject, [][]byte{msg.Put(nil, news), {1, 2, 3}}[r.Intn(2)]
		}
	}
	return s
}

// W3: of nodes with which nothing is wrong, whatever came ahead, each takes what all agree on, behind as many rounds as the bound says.
func TestWholeRest(t *testing.T) {
	r := rand.New(rand.NewSource(10))
	for round := range 60 {
		l := good(r, 5)
		n := net.New(l)
		if round%2 == 0 {
			n = net.Run(fair.Join(n), injected(r, script(r, l, 100, true)))
		}
		n = net.Run(fair.Join(n), script(r, l, 60, false))
		if !fair.Ready(n) {
			t.Fatalf("%v is not ready", l)
		}
		n, count := fair.Rounds(n, fair.Bound(len(l)))
		want, ok := stable.Stable(l)
		if !ok || !fair.Quiet(n) || !fair.Ready(n) {
			t.Fatalf("%v is not quiet behind %d rounds", l, count)
		}
		for i := range l {
			if got := speaker.Loc(n.N[i]); !decide.Same(got, want[i]) {
				t.Fatalf("of %v node %d takes %v, not %v", l, i, got, want[i])
			}
		}
	}
}

// W4: a route is worse to whoever is told it, and it is what was told there.
func TestWholeRoutesBecomeWorse(t *testing.T) {
	r := rand.New(rand.NewSource(11))
	told := 0
	for range 60 {
		l := good(r, 7)
		taken, _ := stable.Stable(l)
		for i, c := range l {
			for _, ch := range taken[i] {
				if ch.R.From < 0 {
					continue
				}
				j, m, _ := topo.Far(l, i, ch.R.From)
				there, ok := decide.Get(taken[j], ch.X)
				p, goes := edge.Out(l[j], m, ch.X, there)
				here, comes := edge.In(c, ch.R.From, ch.X, p)
				if !ok || !goes || !comes || !route.Same(here, ch.R) || route.Compare(there, here) >= 0 {
					t.Fatalf("of %v %d takes %v, and %d %v", l, i, ch.R, j, there)
				}
				told++
			}
		}
	}
	if told < 300 {
		t.Errorf("only %d routes", told)
	}
}

// leaky are nodes that take all, and would tell all to everybody.
func leaky(r *rand.Rand) []api.Conf {
	l := good(r, 6)
	for i := range l {
		for k := range l[i].Sides {
			l[i].Sides[k].In = []api.Rule{{Act: 2, N: 1 + r.Intn(399)}}
			l[i].Sides[k].Out = []api.Rule{{Act: 1}}
		}
	}
	return l
}

// W5: no route from a peer or provider is told to one, whatever the rules are.
func TestWholeRoles(t *testing.T) {
	r := rand.New(rand.NewSource(12))
	kept, told := 0, 0
	for range 60 {
		l := leaky(r)
		n := fair.Join(net.New(l))
		for range 6 {
			n = fair.Round(n) // in the end of which all are told what is taken
			for i, node := range n.N {
				for k, s := range l[i].Sides {
					for _, c := range speaker.Loc(node) {
						_, tells := ribin.Get(node.Out[k], c.X)
						leaks := edge.Class(l[i], c.R.From) > api.Customer && s.Rel != api.Customer
						switch {
						case leaks && tells:
							t.Fatalf("of %v %d tells side %d of %v", l, i, k, c)
						case leaks && c.R.From != k:
							kept++
						case tells:
							told++
						}
					}
				}
			}
		}
	}
	if kept < 100 || told < 1000 {
		t.Errorf("%d routes are not told, %d are", kept, told)
	}
}

// W5: sides whose roles do not go together never come to be Up.
func TestWholeSidesThatDoNotGoTogether(t *testing.T) {
	r := rand.New(rand.NewSource(13))
	other := 0
	for range 40 {
		l := good(r, 4)
		wrong := map[[2]int]bool{}
		for i := range l {
			for k := range l[i].Sides {
				if r.Intn(3) == 0 {
					l[i].Sides[k].Rel = 1 + r.Intn(3)
				}
			}
		}
		for i := range l {
			for k, s := range l[i].Sides {
				if j, m, ok := topo.Far(l, i, k); !ok || l[j].Sides[m].Rel != 4-s.Rel {
					wrong[[2]int{i, k}] = true
				}
			}
		}
		n := fair.Join(net.New(l))
		for _, o := range append([]api.Op{{K: net.Pass}}, script(r, l, 80, true)...) {
			n = net.Do(n, o)
			for at := range wrong {
				if n.N[at[0]].S[at[1]].State == session.Up {
					t.Fatalf("of %v side %d of %d is Up", l, at[1], at[0])
				}
			}
		}
		other += len(wrong)
	}
	if other < 20 {
		t.Errorf("only %d sides", other)
	}
}

// What README.md shows.
func TestWholeReadme(t *testing.T) {
	a, _, _ := conf.Parse("as 65001\nid 10.0.0.1\nown 10.1.0.0/16\npeer 65002 customer\nin any pref 300\nout any accept\n")
	b, _, _ := conf.Parse("as 65002\nid 10.0.0.2\nown 10.2.0.0/16\npeer 65001 provider\nin any pref 100\nout from own accept\n")
	l := []api.Conf{a, b}
	if i, e := topo.Check(l); i != 0 || e != api.OK {
		t.Fatal(i, e)
	}
	n, _ := fair.Rounds(fair.Join(net.New(l)), fair.Bound(len(l)))
	agreed, ok := stable.Stable(l)
	for i := range l {
		taken := speaker.Loc(n.N[i])
		if !ok || len(taken) != 2 || !decide.Same(taken, agreed[i]) {
			t.Errorf("node %d takes %v", i, taken)
		}
	}
}
