package fair_test

import (
	"bytes"
	"math"
	"math/rand"
	"slices"
	"testing"

	"ridgeway/api"
	"ridgeway/fair"
	"ridgeway/net"
	"ridgeway/speaker"
	"ridgeway/topo"
)

func own() []api.Prefix {
	var l []api.Prefix
	for i := range 8 {
		l = append(l, api.Prefix{A: (10 + i) << 24, N: 16})
	}
	return l
}

// row are nodes, each a customer of the next one.
func row(n int) []api.Conf {
	var l []api.Link
	for i := range n - 1 {
		l = append(l, api.Link{A: i, B: i + 1, Rel: 3})
	}
	return topo.Gao(n, own(), l)
}

func samePath(a, b api.Path) bool {
	return a.Origin == b.Origin && slices.Equal(a.As, b.As) && a.Hop == b.Hop && a.Otc == b.Otc
}

func sameTable(a, b []api.Entry) bool {
	return slices.EqualFunc(a, b, func(a, b api.Entry) bool { return a.X == b.X && samePath(a.P, b.P) })
}

func sameNode(a, b api.Node) bool {
	return a.C.As == b.C.As && len(a.C.Sides) == len(b.C.Sides) && slices.Equal(a.S, b.S) && slices.EqualFunc(a.In, b.In, sameTable) && slices.EqualFunc(a.Out, b.Out, sameTable) && slices.EqualFunc(a.Buf, b.Buf, bytes.Equal)
}

func same(a, b api.Net) bool {
	return slices.EqualFunc(a.N, b.N, sameNode) && slices.EqualFunc(a.Q, b.Q, func(a, b [][]byte) bool { return slices.EqualFunc(a, b, bytes.Equal) })
}

// broken is a net that may not be, though its sessions are Up and nothing is on its way.
func broken() api.Net {
	n, _ := fair.Rounds(fair.Join(net.New(row(2))), 10)
	n.Q = slices.Clone(n.Q)
	n.Q[0] = append(slices.Clone(n.Q[0]), nil)
	return n
}

// P23.1
func TestReady(t *testing.T) {
	if !fair.Ready(api.Net{}) || !fair.Ready(net.New(row(1))) {
		t.Error("without sides")
	}
	n := net.New(row(3))
	if fair.Ready(n) || !fair.Ready(fair.Join(n)) {
		t.Error("a row of three")
	}
	n = fair.Join(n)
	for i, sides := range []int{1, 2, 1} {
		for k := range sides {
			if fair.Ready(net.Do(n, api.Op{K: net.Reset, A: i, B: k})) {
				t.Errorf("side %d of node %d is not Up", k, i)
			}
		}
	}
	two := []api.Op{{K: net.Begin}, {K: net.Deliver, N: fair.All}, {K: net.Deliver, A: 1, N: fair.All}}
	half := net.Run(net.New(row(2)), two)
	if half.N[0].S[0].State != 3 || half.N[1].S[0].State != 2 || fair.Ready(half) {
		t.Error("one of both is Up")
	}
	lost := fair.Join(net.New(row(3)))
	lost.N, lost.Q = lost.N[:2], lost.Q[:2] // all are Up, but one leads nowhere
	if fair.Ready(lost) || !net.Sane(lost) {
		t.Error("a side that leads nowhere")
	}
}

// P23.1
func TestQuiet(t *testing.T) {
	if !fair.Quiet(api.Net{}) || !fair.Quiet(net.New(row(3))) {
		t.Error("nothing is on its way")
	}
	n := fair.Join(net.New(row(2)))
	if fair.Quiet(n) || !speaker.Pending(n.N[0], 0) || !speaker.Pending(n.N[1], 0) {
		t.Error("both have something to tell")
	}
	quiet, _ := fair.Rounds(n, 10)
	for i := range 2 {
		way := net.Do(quiet, api.Op{K: net.Inject, A: i, Data: []byte{255}})
		if fair.Quiet(way) || speaker.Pending(way.N[0], 0) || speaker.Pending(way.N[1], 0) {
			t.Error("something is on its way")
		}
		n := net.Run(n, []api.Op{{K: net.Tell, A: 1 - i}, {K: net.Deliver, A: 1 - i, N: fair.All}})
		if len(n.Q[0][0])+len(n.Q[1][0]) > 0 || fair.Quiet(n) {
			t.Errorf("%d has something to tell", i)
		}
	}
	if !fair.Quiet(quiet) {
		t.Error("nothing is on its way any more")
	}
}

// P23.2: a round is the steps that the chapter tells.
func TestRound(t *testing.T) {
	n := net.Run(net.New(row(3)), []api.Op{{K: net.Begin, A: 0, B: 0}, {K: net.Begin, A: 1, B: 1}})
	for round := range 12 {
		var script []api.Op
		for i, l := range n.Q {
			for k, b := range l {
				script = append(script, api.Op{K: net.Deliver, A: i, B: k, N: len(b)})
			}
		}
		for i, l := range n.Q {
			for k := range l {
				script = append(script, api.Op{K: net.Tell, A: i, B: k})
			}
		}
		want := net.Run(n, script)
		got := fair.Round(n)
		if !same(got, want) {
			t.Fatalf("round %d: %v, want %v", round, got, want)
		}
		if round == 0 && (len(got.Q[0][0]) != 19 || len(got.Q[1][0]) != 19) {
			t.Error("what is told in a round does not come in it")
		}
		if round == 5 {
			got = net.Do(got, api.Op{K: net.Reset, A: 2})
		}
		n = got
	}
	if !fair.Quiet(n) {
		t.Error("it is quiet in the end")
	}
}

// P23.2
func TestRounds(t *testing.T) {
	joined := fair.Join(net.New(row(3)))
	n, step := joined, 0
	for !fair.Quiet(n) {
		for _, most := range []int{step, step - 1} {
			want := max(most, 0)
			got, count := fair.Rounds(joined, most)
			if count != want || most == step && !same(got, n) {
				t.Errorf("Rounds of %d: %d", most, count)
			}
		}
		n, step = fair.Round(n), step+1
	}
	if step != 3 { // the document's third example
		t.Errorf("a row of three is quiet behind %d rounds", step)
	}
	for _, most := range []int{step, step + 1, 500, math.MaxInt} {
		if got, count := fair.Rounds(joined, most); count != step || !same(got, n) {
			t.Errorf("Rounds of %d: %d", most, count)
		}
	}
	for _, most := range []int{0, -1, math.MinInt} {
		if got, count := fair.Rounds(joined, most); count != 0 || !same(got, joined) {
			t.Errorf("Rounds of %d: %d", most, count)
		}
	}
	if got, count := fair.Rounds(n, 9); count != 0 || !same(got, n) {
		t.Errorf("Rounds of a quiet net: %d", count)
	}
}

// restless are nodes that never agree: two peers, each of which would rather have what the other one has from their customer.
func restless() []api.Conf {
	t := topo.Gao(3, own(), []api.Link{{A: 1, B: 0, Rel: 1}, {A: 2, B: 0, Rel: 1}, {A: 1, B: 2, Rel: 2}})
	for _, i := range []int{1, 2} {
		t[i].Sides[1].In[0].N = 310
	}
	return t
}

// P23.2, R1: of a net that never is quiet 1000 rounds are the most.
func TestRoundsEnd(t *testing.T) {
	if i, e := topo.Check(restless()); i != 1 || e != api.ErrRise {
		t.Fatal(i, e)
	}
	n := fair.Join(net.New(restless()))
	for most, want := range map[int]int{7: 7, 999: 999, 1000: 1000, 1001: 1000, math.MaxInt: 1000} {
		if got, count := fair.Rounds(n, most); count != want || fair.Quiet(got) {
			t.Errorf("Rounds of %d: %d", most, count)
		}
	}
}

// P23.3
func TestJoin(t *testing.T) {
	steps := func(i, k, j, m int) []api.Op {
		return []api.Op{{K: net.Reset, A: i, B: k}, {K: net.Reset, A: j, B: m}, {K: net.Begin, A: i, B: k}, {K: net.Deliver, A: i, B: k, N: fair.All}, {K: net.Deliver, A: j, B: m, N: fair.All}, {K: net.Deliver, A: i, B: k, N: fair.All}}
	}
	fresh := net.New(row(3))
	used, _ := fair.Rounds(fair.Join(fresh), 2)
	used = net.Run(used, []api.Op{{K: net.Inject, A: 0, Data: []byte{1, 2}}, {K: net.Reset, A: 2}, {K: net.Inject, A: 1, B: 1, Data: make([]byte, 400)}})
	for _, n := range []api.Net{fresh, used} {
		want := net.Run(n, slices.Concat(steps(0, 0, 1, 0), steps(1, 1, 2, 0)))
		got := fair.Join(n)
		if !same(got, want) || !fair.Ready(got) {
			t.Errorf("Join = %v, want %v", got, want)
		}
	}
	lost := net.New(row(3)[:2])
	if want, got := net.Run(lost, steps(0, 0, 1, 0)), fair.Join(lost); !same(got, want) {
		t.Errorf("Join of a side that leads nowhere = %v", got)
	}
}

// P23.3: a side is joined from the one that comes first, whichever of both tells of the other one first.
func TestJoinOfLinksInAnyOrder(t *testing.T) {
	l := topo.Gao(4, own(), []api.Link{{A: 3, B: 1, Rel: 1}, {A: 1, B: 0, Rel: 2}, {A: 2, B: 3, Rel: 3}, {A: 0, B: 3, Rel: 3}})
	n := net.New(l)
	var script []api.Op
	for i := range l {
		for k := range l[i].Sides {
			if j, m, ok := topo.Far(l, i, k); ok && j > i {
				script = append(script, api.Op{K: net.Begin, A: i, B: k}, api.Op{K: net.Deliver, A: i, B: k, N: fair.All}, api.Op{K: net.Deliver, A: j, B: m, N: fair.All}, api.Op{K: net.Deliver, A: i, B: k, N: fair.All})
			}
		}
	}
	if got := fair.Join(n); len(script) != 16 || !same(got, net.Run(n, script)) || !fair.Ready(got) {
		t.Errorf("Join = %v", got)
	}
}

// P23.4
func TestBound(t *testing.T) {
	if fair.All != 1<<30 {
		t.Error(fair.All)
	}
	for nodes, want := range map[int]int{0: 10, 1: 16, 2: 26, 3: 40, 4: 58, 5: 80, 6: 106, 7: 136, 8: 170, 9: 170, 100: 170, -1: 10, -9: 10, math.MaxInt: 170, math.MinInt: 10} {
		if got := fair.Bound(nodes); got != want {
			t.Errorf("Bound(%d) = %d, want %d", nodes, got, want)
		}
	}
}

// A net that may not be counts as the one without nodes.
func TestOfWhatMayNotBe(t *testing.T) {
	n := broken()
	rounds, count := fair.Rounds(n, 5)
	none, zero := fair.Rounds(n, 0)
	if !same(fair.Round(n), api.Net{}) || !same(fair.Join(n), api.Net{}) || !same(rounds, api.Net{}) || !same(none, api.Net{}) || count != 0 || zero != 0 {
		t.Error("Round, Rounds, Join")
	}
	if bare := (api.Net{Q: [][][]byte{nil}}); !same(fair.Round(bare), api.Net{}) || !same(fair.Join(bare), api.Net{}) {
		t.Error("Round, Join without sides")
	}
	n.Q[0][0] = []byte{1}
	n.N = slices.Clone(n.N)
	n.N[0].S = []api.Sess{{}}
	if !fair.Ready(n) || !fair.Quiet(n) {
		t.Error("Ready, Quiet")
	}
}

// random are nodes that go together.
func random(r *rand.Rand) []api.Conf {
	for {
		n := 1 + r.Intn(5)
		var l []api.Link
		for range r.Intn(2 * n) {
			l = append(l, api.Link{A: r.Intn(n), B: r.Intn(n), Rel: 1 + r.Intn(3)})
		}
		t := topo.Gao(n, own(), l)
		if _, e := topo.Check(t); e == api.OK {
			return t
		}
	}
}

// P23.5, R3: a quiet net stays as it is in any round; and it is quiet behind as many as the bound says.
func TestAQuietNetStays(t *testing.T) {
	r := rand.New(rand.NewSource(7))
	for range 60 {
		l := random(r)
		n := fair.Join(net.New(l))
		old := net.Run(n, nil)
		if !fair.Ready(n) {
			t.Fatalf("%v is not ready", l)
		}
		quiet, count := fair.Rounds(n, fair.Bound(len(l)))
		if !fair.Quiet(quiet) || !fair.Ready(quiet) || count > fair.Bound(len(l)) {
			t.Fatalf("%v is not quiet behind %d rounds", l, count)
		}
		if !same(fair.Round(quiet), quiet) {
			t.Fatalf("%v is quiet, and changes", l)
		}
		if !same(n, old) {
			t.Fatalf("%v is changed", l)
		}
	}
}

// The chapter's example.
func TestTwoNodes(t *testing.T) {
	n, count := fair.Rounds(fair.Join(net.New(row(2))), 100)
	if count != 2 || !fair.Quiet(n) || len(speaker.Loc(n.N[0])) != 2 || len(speaker.Loc(n.N[1])) != 2 {
		t.Errorf("%d rounds, %v", count, n)
	}
}
