package net_test

import (
	"bytes"
	"math"
	"math/rand"
	"slices"
	"testing"

	"ridgeway/api"
	"ridgeway/net"
	"ridgeway/note"
	"ridgeway/speaker"
	"ridgeway/topo"
)

// row are three nodes, each a customer of the next one; node 1 has two sides.
func row() []api.Conf {
	own := []api.Prefix{{A: 10 << 24, N: 16}, {A: 11 << 24, N: 16}, {A: 12 << 24, N: 16}}
	return topo.Gao(3, own, []api.Link{{A: 0, B: 1, Rel: 3}, {A: 1, B: 2, Rel: 3}})
}

func samePath(a, b api.Path) bool {
	return a.Origin == b.Origin && slices.Equal(a.As, b.As) && a.Hop == b.Hop && a.Otc == b.Otc
}

func sameTable(a, b []api.Entry) bool {
	return slices.EqualFunc(a, b, func(a, b api.Entry) bool { return a.X == b.X && samePath(a.P, b.P) })
}

func sameConf(a, b api.Conf) bool {
	return a.As == b.As && a.Id == b.Id && a.Hold == b.Hold && a.Cap == b.Cap && slices.Equal(a.Own, b.Own) && slices.EqualFunc(a.Sides, b.Sides, func(a, b api.Side) bool {
		return a.As == b.As && a.Rel == b.Rel && slices.Equal(a.In, b.In) && slices.Equal(a.Out, b.Out)
	})
}

func sameNode(a, b api.Node) bool {
	return sameConf(a.C, b.C) && slices.Equal(a.S, b.S) && slices.EqualFunc(a.In, b.In, sameTable) && slices.EqualFunc(a.Out, b.Out, sameTable) && slices.EqualFunc(a.Buf, b.Buf, bytes.Equal)
}

func sameWay(a, b [][]byte) bool { return slices.EqualFunc(a, b, bytes.Equal) }

func same(a, b api.Net) bool {
	return slices.EqualFunc(a.N, b.N, sameNode) && slices.EqualFunc(a.Q, b.Q, sameWay)
}

// copied is a net that shares no list with n that a call might change.
func copied(n api.Net) api.Net {
	c := api.Net{N: slices.Clone(n.N), Q: slices.Clone(n.Q)}
	for i, m := range c.N {
		m.S, m.In, m.Out, m.Buf = slices.Clone(m.S), slices.Clone(m.In), slices.Clone(m.Out), slices.Clone(m.Buf)
		for k := range m.In {
			m.In[k] = slices.Clone(m.In[k])
		}
		for k := range m.Out {
			m.Out[k] = slices.Clone(m.Out[k])
		}
		for k := range m.Buf {
			m.Buf[k] = bytes.Clone(m.Buf[k])
		}
		c.N[i] = m
	}
	for i, l := range c.Q {
		c.Q[i] = slices.Clone(l)
		for k, b := range l {
			c.Q[i][k] = bytes.Clone(b)
		}
	}
	return c
}

const all = 1 << 30

// join is a script by which a side's session comes to be Up, where it leads to side m of node j.
func join(i, k, j, m int) []api.Op {
	return []api.Op{{K: 0, A: i, B: k}, {K: 1, A: i, B: k, N: all}, {K: 1, A: j, B: m, N: all}, {K: 1, A: i, B: k, N: all}}
}

// full is a net with sessions that are Up, routes that were told, and octets on their way, some of them delivered by half.
func full() api.Net {
	n := net.Run(net.New(row()), slices.Concat(join(0, 0, 1, 0), join(1, 1, 2, 0)))
	return net.Run(n, []api.Op{{K: 3, A: 0, B: 0}, {K: 1, A: 0, B: 0, N: all}, {K: 3, A: 1, B: 1}, {K: 3, A: 2, B: 0}, {K: 1, A: 2, B: 0, N: 25}})
}

// changed is a net with one thing otherwise.
func changed(n api.Net, change func(n *api.Net)) api.Net {
	c := copied(n)
	change(&c)
	return c
}

// P22.1
func TestNewAndSane(t *testing.T) {
	n := net.New(row())
	if len(n.N) != 3 || len(n.Q) != 3 || !net.Sane(n) {
		t.Fatalf("New = %v", n)
	}
	for i, c := range row() {
		if !sameNode(n.N[i], speaker.New(c)) || len(n.Q[i]) != len(c.Sides) || len(slices.Concat(n.Q[i]...)) != 0 {
			t.Errorf("node %d is %v, %v", i, n.N[i], n.Q[i])
		}
	}
	bad := row()
	bad[2].Cap = 0
	for _, l := range [][]api.Conf{nil, {}, bad, slices.Repeat(row(), 3), {{}}} {
		if n := net.New(l); !same(n, api.Net{}) {
			t.Errorf("New of %d = %v", len(l), n)
		}
	}
	if n := net.New(topo.Gao(8, nil, nil)); len(n.N) != 8 || !net.Sane(n) {
		t.Errorf("New of 8 = %v", n)
	}
	if same := net.New([]api.Conf{row()[0], row()[0]}); len(same.N) != 2 {
		t.Error("nodes need not go together")
	}
	if !net.Sane(api.Net{}) || !net.Sane(full()) || len(net.Confs(api.Net{})) != 0 || !slices.EqualFunc(net.Confs(full()), row(), sameConf) {
		t.Error("Sane, Confs")
	}
}

// broken are nets that may not be.
func broken() []api.Net {
	n := full()
	l := []api.Net{
		changed(n, func(n *api.Net) { n.Q = n.Q[:2] }),
		changed(n, func(n *api.Net) { n.Q = append(n.Q, nil) }),
		changed(n, func(n *api.Net) { n.Q = nil }),
		changed(n, func(n *api.Net) { n.N = n.N[:2] }),
		changed(n, func(n *api.Net) { n.N = nil }),
		changed(n, func(n *api.Net) { n.Q[1] = n.Q[1][:1] }),
		changed(n, func(n *api.Net) { n.Q[2] = append(n.Q[2], nil) }),
		changed(n, func(n *api.Net) { n.N[0].C.Cap = 0 }),
		changed(n, func(n *api.Net) { n.N[2] = api.Node{}; n.Q[2] = nil }),
		changed(n, func(n *api.Net) { n.N[1].S[0].Left = 0 }),
		changed(n, func(n *api.Net) { n.N[2].Buf = nil }),
		{Q: [][][]byte{nil}},
	}
	nine := net.New(topo.Gao(8, nil, nil))
	nine.N, nine.Q = append(nine.N, nine.N[0]), append(nine.Q, nil)
	return append(l, nine)
}

// P22.1: a net that may not be counts as the one without nodes.
func TestOfWhatMayNotBe(t *testing.T) {
	for i, n := range broken() {
		if net.Sane(n) || len(net.Confs(n)) != 0 {
			t.Errorf("%d may be", i)
		}
		for k := -1; k < 7; k++ {
			if got := net.Do(n, api.Op{K: k, N: 1}); !same(got, api.Net{}) {
				t.Errorf("%d: Do of kind %d = %v", i, k, got)
			}
		}
		if !same(net.Run(n, nil), api.Net{}) || !same(net.Run(n, join(0, 0, 1, 0)), api.Net{}) {
			t.Errorf("%d: Run", i)
		}
	}
}

// P22.2: where nothing happens.
func TestNothingHappens(t *testing.T) {
	n := full()
	for _, o := range []api.Op{
		{K: 6}, {K: -1}, {K: math.MaxInt}, {K: math.MinInt},
		{K: 0, A: 3}, {K: 1, A: 3, N: 5}, {K: 2, A: 3, N: 5}, {K: 3, A: 3}, {K: 4, A: 3}, {K: 5, A: 3, Data: []byte{1}},
		{K: 0, A: -1}, {K: 1, A: -1, N: 5}, {K: 2, A: -1, N: 5}, {K: 3, A: -1}, {K: 4, A: -1}, {K: 5, A: -1, Data: []byte{1}},
		{K: 0, A: 1, B: 2}, {K: 1, A: 1, B: 2, N: 5}, {K: 3, A: 1, B: 2}, {K: 4, A: 1, B: 2}, {K: 5, A: 1, B: 2, Data: []byte{1}},
		{K: 0, A: 1, B: -1}, {K: 1, A: 1, B: -1, N: 5}, {K: 3, A: 1, B: -1}, {K: 4, A: 1, B: -1}, {K: 5, A: 1, B: -1, Data: []byte{1}},
		{K: 4, A: math.MaxInt, B: math.MinInt}, {K: 4, A: 0, B: math.MaxInt},
		{K: 0, A: 0, B: 0}, {K: 0, A: 1, B: 0}, // they are not Idle
		{K: 1, A: 1, B: 1, N: 0}, {K: 1, A: 1, B: 1, N: -1}, {K: 1, A: 1, B: 1, N: math.MinInt}, {K: 1, A: 0, B: 0, N: all}, // nothing is on its way from 0
		{K: 2, A: 0, N: 0}, {K: 2, A: 0, N: -9},
		{K: 3, A: 0, B: 0}, // it was told
		{K: 5, A: 1, B: 1}, {K: 5, A: 1, B: 1, Data: make([]byte, 501)},
	} {
		if got := net.Do(n, o); !same(got, n) {
			t.Errorf("Do of %v changes it", o)
		}
	}
	if got := net.Do(api.Net{}, api.Op{K: 2, N: 3}); !same(got, api.Net{}) {
		t.Errorf("Do without nodes = %v", got)
	}
}

// P22.2: Begin
func TestBegin(t *testing.T) {
	n := net.New(row())
	n.Q[0][0], n.Q[1][0], n.Q[1][1] = []byte{1}, []byte{2}, []byte{3}
	want := copied(n)
	want.N[1], want.Q[1][0] = speaker.Start(n.N[1], 0)
	want.N[0], want.Q[0][0] = speaker.Start(n.N[0], 0)
	for _, o := range []api.Op{{K: 0, A: 0, B: 0}, {K: 0, A: 1, B: 0, N: 7, Data: []byte{7}}} {
		old := copied(n)
		if got := net.Do(n, o); !same(got, want) || !net.Sane(got) {
			t.Errorf("Begin = %v, want %v", got, want)
		}
		if !same(n, old) {
			t.Errorf("changed to %v", n)
		}
	}
	for _, half := range []int{0, 1} { // one of both is not Idle
		c := copied(n)
		c.N[half], _ = speaker.Start(c.N[half], 0)
		for _, o := range []api.Op{{K: 0, A: 0, B: 0}, {K: 0, A: 1, B: 0}} {
			if got := net.Do(c, o); !same(got, c) {
				t.Errorf("Begin where %d is not Idle = %v", half, got)
			}
		}
	}
	lost := net.New(row()[:2]) // side 1 of node 1 leads nowhere
	if got := net.Do(lost, api.Op{K: 0, A: 1, B: 1}); !same(got, lost) {
		t.Errorf("Begin to nowhere = %v", got)
	}
}

// P22.2: Deliver
func TestDeliver(t *testing.T) {
	begun := net.Do(net.New(row()), api.Op{K: 0, A: 0, B: 0})
	q := begun.Q[0][0]
	for _, size := range []int{1, 18, 30, len(q) - 1, len(q), len(q) + 1, all, math.MaxInt} {
		taken := min(size, len(q))
		want := copied(begun)
		want.Q[0][0] = q[taken:]
		var told []byte
		want.N[1], told = speaker.Feed(begun.N[1], 0, q[:taken])
		want.Q[1][0] = slices.Concat(begun.Q[1][0], told)
		if (len(told) > 0) != (taken == len(q)) {
			t.Fatalf("of %d octets %v is told", size, told)
		}
		old := copied(begun)
		if got := net.Do(begun, api.Op{K: 1, A: 0, B: 0, N: size, Data: []byte{9}}); !same(got, want) || !net.Sane(got) {
			t.Errorf("Deliver of %d = %v, want %v", size, got, want)
		}
		if !same(begun, old) {
			t.Errorf("changed to %v", begun)
		}
	}
	lost := net.New(row()[:2])
	lost.Q[1][1] = []byte{1, 2, 3}
	lost.N[0], _ = speaker.Start(lost.N[0], 0) // nothing comes to it
	want := copied(lost)
	want.Q[1][1] = []byte{3}
	if got := net.Do(lost, api.Op{K: 1, A: 1, B: 1, N: 2}); !same(got, want) {
		t.Errorf("Deliver to nowhere = %v", got)
	}
	last := full() // what is told goes on its way behind what is there
	want = copied(last)
	want.Q[1][0] = []byte{}
	want.Q[1][1], want.Q[2][0] = []byte{7, 8}, make([]byte, 19)
	want.N[1].Buf[1] = nil
	last = copied(want)
	var told []byte
	want.N[1], told = speaker.Feed(want.N[1], 1, make([]byte, 19))
	want.Q[1][1], want.Q[2][0] = slices.Concat([]byte{7, 8}, told), nil
	if got := net.Do(last, api.Op{K: 1, A: 2, B: 0, N: 19}); !same(got, want) || len(told) == 0 {
		t.Errorf("Deliver = %v, want %v", got, want)
	}
}

// P22.2: Pass
func TestPass(t *testing.T) {
	n := full()
	for _, secs := range []int{1, 29, 30, 90, math.MaxInt} {
		for _, b := range []int{0, -1, 99} {
			want := copied(n)
			var told [][]byte
			want.N[1], told = speaker.Tick(n.N[1], secs)
			for k := range told {
				want.Q[1][k] = slices.Concat(n.Q[1][k], told[k])
			}
			if secs >= 30 && (len(told[0]) == 0 || len(told[1]) == 0) {
				t.Fatal("nothing is told")
			}
			old := copied(n)
			if got := net.Do(n, api.Op{K: 2, A: 1, B: b, N: secs}); !same(got, want) || !net.Sane(got) {
				t.Errorf("Pass of %d = %v, want %v", secs, got, want)
			}
			if !same(n, old) {
				t.Errorf("changed to %v", n)
			}
		}
	}
}

// P22.2: Tell, Reset and Inject
func TestTellResetInject(t *testing.T) {
	n := full()
	n.Q[1][0] = []byte{5}
	want := copied(n)
	var told []byte
	want.N[1], told = speaker.Tell(n.N[1], 0)
	want.Q[1][0] = append([]byte{5}, told...)
	if got := net.Do(n, api.Op{K: 3, A: 1, B: 0}); !same(got, want) || len(told) == 0 {
		t.Errorf("Tell = %v, want %v", got, want)
	}
	want = copied(n)
	want.N[1], told = speaker.Stop(n.N[1], 1, api.Note{Code: 6, Sub: 4})
	want.Q[1][1] = slices.Concat(n.Q[1][1], told)
	if got := net.Do(n, api.Op{K: 4, A: 1, B: 1, N: 3, Data: []byte{3}}); !same(got, want) || !bytes.HasSuffix(told, note.Put(api.Note{Code: 6, Sub: 4}).Body) {
		t.Errorf("Reset = %v, want %v", got, want)
	}
	for _, b := range [][]byte{{1}, make([]byte, 500)} {
		want = copied(n)
		want.Q[1][0] = append([]byte{5}, b...)
		if got := net.Do(n, api.Op{K: 5, A: 1, B: 0, N: 1, Data: b}); !same(got, want) {
			t.Errorf("Inject = %v, want %v", got, want)
		}
	}
	lost := net.New(row()[:2]) // where a side leads does not matter
	want = copied(lost)
	want.Q[1][1] = []byte{4, 5}
	if got := net.Do(lost, api.Op{K: 5, A: 1, B: 1, Data: []byte{4, 5}}); !same(got, want) {
		t.Errorf("Inject = %v", got)
	}
}

// The chapter's example.
func TestJoin(t *testing.T) {
	n := net.Run(net.New(row()), join(0, 0, 1, 0))
	if n.N[0].S[0].State != 3 || n.N[1].S[0].State != 3 || n.N[1].S[1].State != 0 {
		t.Errorf("%v %v", n.N[0].S, n.N[1].S)
	}
	for _, l := range n.Q {
		if len(slices.Concat(l...)) != 0 {
			t.Errorf("on its way is %v", l)
		}
	}
}

// P22.2 of Run, P22.3, P1: a script at random: Run is Do of each step; each step changes two nodes at most; whatever there is may be.
func TestScriptsAtRandom(t *testing.T) {
	r := rand.New(rand.NewSource(6))
	up := 0
	for range 60 {
		n := full()
		var script []api.Op
		for range 60 {
			o := api.Op{K: r.Intn(8) - 1, A: r.Intn(5) - 1, B: r.Intn(4) - 1, N: r.Intn(60) - 1}
			switch r.Intn(4) {
			case 0:
				o.K, o.N = 1, all
			case 1:
				o.Data = bytes.Repeat([]byte{255}, r.Intn(30))
			case 2:
				o = []api.Op{{K: 0, A: 1, B: 0}, {K: 0, A: 2, B: 0}, {K: 1, A: 0, B: 0, N: all}, {K: 1, A: 1, B: 0, N: all}, {K: 1, A: 1, B: 1, N: all}, {K: 1, A: 2, B: 0, N: all}, {K: 3, A: 1, B: 0}, {K: 3, A: 1, B: 1}}[r.Intn(8)]
			}
			script = append(script, o)
		}
		step := n
		for i, o := range script {
			next := net.Do(step, o)
			if !net.Sane(next) || len(next.N) != 3 {
				t.Fatalf("step %d, %v: may not be", i, o)
			}
			others := 0
			for j := range next.N {
				if !sameNode(next.N[j], step.N[j]) || !sameWay(next.Q[j], step.Q[j]) {
					others++
				}
			}
			if others > 2 {
				t.Fatalf("step %d, %v, changes all", i, o)
			}
			step = next
			if slices.ContainsFunc(step.N[1].S, func(s api.Sess) bool { return s.State == 3 }) {
				up++
			}
		}
		if got := net.Run(n, script); !same(got, step) {
			t.Fatalf("Run of %v", script)
		}
		if !same(n, full()) {
			t.Fatal("changed")
		}
	}
	if up < 100 {
		t.Errorf("a session was Up behind %d steps", up)
	}
}
