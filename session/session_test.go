package session_test

import (
	"bytes"
	"math"
	"slices"
	"testing"

	"ridgeway/api"
	"ridgeway/note"
	"ridgeway/open"
	"ridgeway/session"
)

func same(a, b api.Msg) bool { return a.Type == b.Type && bytes.Equal(a.Body, b.Body) }

func sameList(a, b []api.Msg) bool { return slices.EqualFunc(a, b, same) }

func alive() api.Msg { return api.Msg{Type: 4} }

func opened(as, hold, role int) api.Msg {
	return open.Put(api.Hello{As: as, Hold: hold, Id: 9, Role: role})
}

func update() api.Msg { return api.Msg{Type: 2, Body: make([]byte, 4)} }

func notice() api.Msg { return api.Msg{Type: 3, Body: []byte{6, 4}} }

// ends is what is told of a session that ends with a note.
func ends(code, sub int, data ...byte) []api.Msg {
	return []api.Msg{note.Put(api.Note{Code: code, Sub: sub, Data: data})}
}

// node is 100, with customer 11, peer 12 and provider 13.
func node() api.Conf {
	return api.Conf{As: 100, Id: 0x0a000001, Hold: 90, Cap: 100, Sides: []api.Side{{As: 11, Rel: 1}, {As: 12, Rel: 2}, {As: 13, Rel: 3}}}
}

func bad() api.Conf {
	c := node()
	c.Cap = 0
	return c
}

var (
	sent    = api.Sess{State: 1, Left: 240}
	confirm = api.Sess{State: 2, Hold: 90, Left: 50, Keep: 7}
	up      = api.Sess{State: 3, Hold: 90, Left: 50, Keep: 7}
	endless = api.Sess{State: 3}
)

// none are sessions that may not be.
func none() []api.Sess {
	return []api.Sess{
		{State: 0, Hold: 90}, {State: 0, Left: 1}, {State: 0, Keep: 1}, {State: 0, Left: -1},
		{State: 1}, {State: 1, Left: 241}, {State: 1, Left: -1}, {State: 1, Left: 240, Hold: 90}, {State: 1, Left: 240, Keep: 1}, {State: 1, Left: math.MaxInt},
		{State: 2, Left: 1}, {State: 2, Keep: 1}, {State: 2, Left: -1}, {State: 2, Hold: 2, Left: 1, Keep: 1}, {State: 2, Hold: 1, Left: 1}, {State: 2, Hold: -1, Left: -1},
		{State: 3, Hold: 90, Left: 0, Keep: 1}, {State: 3, Hold: 90, Left: 91, Keep: 1}, {State: 3, Hold: 90, Left: 90, Keep: 0}, {State: 3, Hold: 90, Left: 90, Keep: 31},
		{State: 3, Hold: 65536, Left: 1, Keep: 1}, {State: 3, Hold: 3, Left: 3, Keep: 2}, {State: 3, Hold: 90, Left: -5, Keep: 1}, {State: 3, Hold: 90, Left: 5, Keep: -1},
		{State: 3, Hold: 5, Left: 5, Keep: 2}, {State: 2, Hold: 90, Left: 0, Keep: 0},
		{State: 4}, {State: -1}, {State: 4, Hold: 90, Left: 90, Keep: 30}, {State: math.MaxInt}, {State: math.MinInt},
	}
}

// some are sessions that may be.
func some() []api.Sess {
	return []api.Sess{
		{}, {State: 1, Left: 1}, sent, confirm, up, endless, {State: 2}, {State: 2, Hold: 3, Left: 1, Keep: 1}, {State: 2, Hold: 3, Left: 3, Keep: 1},
		{State: 3, Hold: 90, Left: 90, Keep: 30}, {State: 3, Hold: 65535, Left: 65535, Keep: 21845}, {State: 3, Hold: 8, Left: 8, Keep: 2},
	}
}

// P17.1
func TestSane(t *testing.T) {
	if session.Idle != 0 || session.Sent != 1 || session.Confirm != 2 || session.Up != 3 || session.Wait != 240 {
		t.Error("states")
	}
	for _, s := range some() {
		if !session.Sane(s) {
			t.Errorf("%+v may be", s)
		}
	}
	for _, s := range none() {
		if session.Sane(s) {
			t.Errorf("%+v may not be", s)
		}
	}
}

// P17.1: one that may not be counts as the Idle one.
func TestOfWhatMayNotBe(t *testing.T) {
	for _, s := range none() {
		if got, l := session.Start(s, node(), 0); got != sent || len(l) != 1 {
			t.Errorf("Start of %+v = %+v %v", s, got, l)
		}
		if got, l := session.Start(s, node(), 3); got != (api.Sess{}) || len(l) != 0 {
			t.Errorf("Start of %+v, no side = %+v %v", s, got, l)
		}
		if got, l := session.Stop(s, api.Note{Code: 6, Sub: 4}); got != (api.Sess{}) || len(l) != 0 {
			t.Errorf("Stop of %+v = %+v %v", s, got, l)
		}
		if got, l := session.Tick(s, 5); got != (api.Sess{}) || len(l) != 0 {
			t.Errorf("Tick of %+v = %+v %v", s, got, l)
		}
		for _, m := range []api.Msg{alive(), update(), notice(), opened(11, 90, 3), {}} {
			if got, l, read := session.Take(s, node(), 0, m); got != (api.Sess{}) || len(l) != 0 || read {
				t.Errorf("Take of %+v = %+v %v %v", s, got, l, read)
			}
		}
	}
}

// P17.1
func TestHello(t *testing.T) {
	for k, role := range []int{0, 4, 3} {
		if got := session.Hello(node(), k); got != (api.Hello{As: 100, Hold: 90, Id: 0x0a000001, Role: role}) {
			t.Errorf("Hello to side %d = %+v", k, got)
		}
	}
	for _, k := range []int{-1, 3, math.MaxInt, math.MinInt} {
		if got := session.Hello(node(), k); got != (api.Hello{}) {
			t.Errorf("Hello to side %d = %+v", k, got)
		}
	}
	if session.Hello(bad(), 0) != (api.Hello{}) || session.Hello(api.Conf{}, 0) != (api.Hello{}) {
		t.Error("Hello of what may not be")
	}
}

// P17.2
func TestStart(t *testing.T) {
	for k, role := range []int{0, 4, 3} {
		s, l := session.Start(api.Sess{}, node(), k)
		if s != sent || !sameList(l, []api.Msg{open.Put(api.Hello{As: 100, Hold: 90, Id: 0x0a000001, Role: role})}) {
			t.Errorf("Start of side %d = %+v %v", k, s, l)
		}
	}
	for _, s := range some() {
		for _, x := range []struct {
			c api.Conf
			k int
		}{{bad(), 0}, {api.Conf{}, 0}, {node(), -1}, {node(), 3}, {node(), 0}} {
			if s == (api.Sess{}) && x.k == 0 && x.c.Cap > 0 {
				continue
			}
			if got, l := session.Start(s, x.c, x.k); got != s || len(l) != 0 {
				t.Errorf("Start of %+v = %+v %v", s, got, l)
			}
		}
	}
}

// P17.2
func TestStop(t *testing.T) {
	for _, s := range some() {
		want := ends(6, 4, 1, 2)
		if s.State == 0 {
			want = nil
		}
		if got, l := session.Stop(s, api.Note{Code: 6, Sub: 4, Data: []byte{1, 2}}); got != (api.Sess{}) || !sameList(l, want) {
			t.Errorf("Stop of %+v = %+v %v", s, got, l)
		}
		for _, n := range []api.Note{{}, {Code: 256}, {Code: 1, Sub: -1}, {Code: 1, Data: make([]byte, 4076)}} {
			if got, l := session.Stop(s, n); got != (api.Sess{}) || len(l) != 0 {
				t.Errorf("Stop of %+v with %d, %d = %+v %v", s, n.Code, n.Sub, got, l)
			}
		}
	}
}

// P17.3: what each message does in each state.
func TestTake(t *testing.T) {
	for _, x := range []struct {
		name string
		s    api.Sess
		k    int
		m    api.Msg
		next api.Sess
		told []api.Msg
		read bool
	}{
		{"Idle, Open", api.Sess{}, 0, opened(11, 90, 3), api.Sess{}, nil, false},
		{"Idle, Update", api.Sess{}, 0, update(), api.Sess{}, nil, false},
		{"Idle, Notice", api.Sess{}, 0, notice(), api.Sess{}, nil, false},
		{"Idle, Alive", api.Sess{}, 0, alive(), api.Sess{}, nil, false},

		{"Sent, Open", sent, 0, opened(11, 90, 3), api.Sess{State: 2, Hold: 90, Left: 90, Keep: 30}, []api.Msg{alive()}, false},
		{"Sent, Open, less left", api.Sess{State: 1, Left: 1}, 0, opened(11, 90, 3), api.Sess{State: 2, Hold: 90, Left: 90, Keep: 30}, []api.Msg{alive()}, false},
		{"Sent, Open of a peer", sent, 1, opened(12, 90, 4), api.Sess{State: 2, Hold: 90, Left: 90, Keep: 30}, []api.Msg{alive()}, false},
		{"Sent, Open of a provider", sent, 2, opened(13, 90, 0), api.Sess{State: 2, Hold: 90, Left: 90, Keep: 30}, []api.Msg{alive()}, false},
		{"Sent, Open without a role", sent, 1, opened(12, 90, -1), api.Sess{State: 2, Hold: 90, Left: 90, Keep: 30}, []api.Msg{alive()}, false},
		{"Sent, Open, a lesser Hold", sent, 0, opened(11, 20, 3), api.Sess{State: 2, Hold: 20, Left: 20, Keep: 6}, []api.Msg{alive()}, false},
		{"Sent, Open, a greater Hold", sent, 0, opened(11, 65535, 3), api.Sess{State: 2, Hold: 90, Left: 90, Keep: 30}, []api.Msg{alive()}, false},
		{"Sent, Open, Hold 3", sent, 0, opened(11, 3, 3), api.Sess{State: 2, Hold: 3, Left: 3, Keep: 1}, []api.Msg{alive()}, false},
		{"Sent, Open, Hold 0", sent, 0, opened(11, 0, 3), api.Sess{State: 2}, []api.Msg{alive()}, false},
		{"Sent, Open of another AS", sent, 0, opened(12, 90, 3), api.Sess{}, ends(2, 2), false},
		{"Sent, Open of another AS and role", sent, 0, opened(12, 90, 4), api.Sess{}, ends(2, 2), false},
		{"Sent, Open that says nothing", sent, 0, api.Msg{Type: 1, Body: []byte{4, 0, 11, 0, 90, 1, 1, 1, 1, 0}}, api.Sess{}, ends(2, 7, 65, 0), false},
		{"Sent, Open of another version", sent, 0, api.Msg{Type: 1, Body: make([]byte, 10)}, api.Sess{}, ends(2, 1, 0, 4), false},
		{"Sent, a customer that is a provider", sent, 0, opened(11, 90, 0), api.Sess{}, ends(2, 11), false},
		{"Sent, a customer that is a peer", sent, 0, opened(11, 90, 4), api.Sess{}, ends(2, 11), false},
		{"Sent, a peer that is a customer", sent, 1, opened(12, 90, 3), api.Sess{}, ends(2, 11), false},
		{"Sent, a provider that is a provider's customer", sent, 2, opened(13, 90, 3), api.Sess{}, ends(2, 11), false},
		{"Sent, a client", sent, 2, opened(13, 90, 2), api.Sess{}, ends(2, 11), false},
		{"Sent, Update", sent, 0, update(), api.Sess{}, ends(5, 1), false},
		{"Sent, Alive", sent, 0, alive(), api.Sess{}, ends(5, 1), false},
		{"Sent, Notice", sent, 0, notice(), api.Sess{}, nil, false},

		{"Confirm, Alive", confirm, 0, alive(), api.Sess{State: 3, Hold: 90, Left: 90, Keep: 7}, nil, false},
		{"Confirm, Alive, Hold 0", api.Sess{State: 2}, 0, alive(), endless, nil, false},
		{"Confirm, Open", confirm, 0, opened(11, 90, 3), api.Sess{}, ends(5, 2), false},
		{"Confirm, Update", confirm, 0, update(), api.Sess{}, ends(5, 2), false},
		{"Confirm, Notice", confirm, 0, notice(), api.Sess{}, nil, false},

		{"Up, Alive", up, 0, alive(), api.Sess{State: 3, Hold: 90, Left: 90, Keep: 7}, nil, false},
		{"Up, Update", up, 0, update(), api.Sess{State: 3, Hold: 90, Left: 90, Keep: 7}, nil, true},
		{"Up, Alive, Hold 0", endless, 0, alive(), endless, nil, false},
		{"Up, Update, Hold 0", endless, 0, update(), endless, nil, true},
		{"Up, Open", up, 0, opened(11, 90, 3), api.Sess{}, ends(5, 3), false},
		{"Up, Notice", up, 0, notice(), api.Sess{}, nil, false},
	} {
		next, told, read := session.Take(x.s, node(), x.k, x.m)
		if next != x.next || !sameList(told, x.told) || read != x.read {
			t.Errorf("%s: %+v %v %v", x.name, next, told, read)
		}
	}
}

// P17.3: Hold 0 of the node; and messages, nodes and sides that may not be.
func TestTakeOfOthers(t *testing.T) {
	c := node()
	c.Hold = 0
	if s, l, _ := session.Take(sent, c, 0, opened(11, 90, 3)); s != (api.Sess{State: 2}) || !sameList(l, []api.Msg{alive()}) {
		t.Errorf("the node's Hold is 0: %+v %v", s, l)
	}
	for _, s := range some() {
		for _, m := range []api.Msg{{}, {Type: 5}, {Type: 4, Body: []byte{1}}, {Type: 2, Body: make([]byte, 3)}, {Type: 3, Body: []byte{6}}, {Type: 1, Body: make([]byte, 9)}, {Type: 2, Body: make([]byte, 4078)}, {Type: -1}} {
			if got, l, read := session.Take(s, node(), 0, m); got != s || len(l) != 0 || read {
				t.Errorf("%+v, type %d with %d octets: %+v %v %v", s, m.Type, len(m.Body), got, l, read)
			}
		}
		for _, m := range []api.Msg{alive(), update(), notice(), opened(11, 90, 3)} {
			for _, x := range []struct {
				c api.Conf
				k int
			}{{bad(), 0}, {api.Conf{}, 0}, {node(), -1}, {node(), 3}, {node(), math.MaxInt}} {
				if got, l, read := session.Take(s, x.c, x.k, m); got != s || len(l) != 0 || read {
					t.Errorf("%+v, type %d at side %d: %+v %v %v", s, m.Type, x.k, got, l, read)
				}
			}
		}
	}
}

// P17.4
func TestTick(t *testing.T) {
	one := []api.Msg{alive()}
	for _, x := range []struct {
		name string
		s    api.Sess
		n    int
		next api.Sess
		told []api.Msg
	}{
		{"none", up, 0, up, nil},
		{"below none", up, -1, up, nil},
		{"far below none", up, math.MinInt, up, nil},
		{"Idle", api.Sess{}, 1000, api.Sess{}, nil},
		{"Sent", sent, 1, api.Sess{State: 1, Left: 239}, nil},
		{"Sent, almost over", sent, 239, api.Sess{State: 1, Left: 1}, nil},
		{"Sent, over", sent, 240, api.Sess{}, ends(4, 0)},
		{"Sent, long over", sent, math.MaxInt, api.Sess{}, ends(4, 0)},
		{"Confirm", confirm, 6, api.Sess{State: 2, Hold: 90, Left: 44, Keep: 1}, nil},
		{"Confirm, an Alive", confirm, 7, api.Sess{State: 2, Hold: 90, Left: 43, Keep: 30}, one},
		{"Up, an Alive", up, 7, api.Sess{State: 3, Hold: 90, Left: 43, Keep: 30}, one},
		{"Up, two Alives", up, 37, api.Sess{State: 3, Hold: 90, Left: 13, Keep: 30}, []api.Msg{alive(), alive()}},
		{"Up, over", up, 50, api.Sess{}, append([]api.Msg{alive(), alive()}, ends(4, 0)...)},
		{"Up, over with the time for an Alive", api.Sess{State: 3, Hold: 90, Left: 7, Keep: 7}, 7, api.Sess{}, ends(4, 0)},
		{"Up, an Alive just ahead", api.Sess{State: 3, Hold: 90, Left: 8, Keep: 7}, 8, api.Sess{}, append([]api.Msg{alive()}, ends(4, 0)...)},
		{"Hold 3", api.Sess{State: 3, Hold: 3, Left: 3, Keep: 1}, 2, api.Sess{State: 3, Hold: 3, Left: 1, Keep: 1}, []api.Msg{alive(), alive()}},
		{"Hold 3, over", api.Sess{State: 3, Hold: 3, Left: 3, Keep: 1}, 3, api.Sess{}, append([]api.Msg{alive(), alive()}, ends(4, 0)...)},
		{"Hold 0", endless, 1000, endless, nil},
		{"1000 seconds", api.Sess{State: 3, Hold: 65535, Left: 65535, Keep: 21845}, 1000, api.Sess{State: 3, Hold: 65535, Left: 64535, Keep: 20845}, nil},
		{"more than 1000", api.Sess{State: 3, Hold: 65535, Left: 65535, Keep: 21845}, 1001, api.Sess{State: 3, Hold: 65535, Left: 64535, Keep: 20845}, nil},
		{"far more than 1000", api.Sess{State: 3, Hold: 65535, Left: 65535, Keep: 500}, math.MaxInt, api.Sess{State: 3, Hold: 65535, Left: 64535, Keep: 21345}, one},
	} {
		if next, told := session.Tick(x.s, x.n); next != x.next || !sameList(told, x.told) {
			t.Errorf("%s: %+v %v", x.name, next, told)
		}
	}
}

// P17.4: seconds one behind the other are the same as all at once; whatever there is may be.
func TestTickStepByStep(t *testing.T) {
	for _, s := range some() {
		var told []api.Msg
		step := s
		for n := 1; n <= 300; n++ {
			next, l := session.Tick(step, 1)
			step, told = next, append(told, l...)
			if got, all := session.Tick(s, n); got != step || !sameList(all, told) || !session.Sane(got) {
				t.Fatalf("%+v behind %d seconds: %+v, step by step %+v", s, n, got, step)
			}
		}
	}
}

// P17.5: two neighbours, each of which takes what the other one tells.
func TestTwoNeighboursAreUp(t *testing.T) {
	for rel := 1; rel <= 3; rel++ {
		for _, hold := range []int{0, 3, 90} {
			a := api.Conf{As: 100, Id: 1, Hold: hold, Cap: 1, Sides: []api.Side{{As: 70000, Rel: rel}}}
			b := api.Conf{As: 70000, Id: 2, Hold: 30, Cap: 1, Sides: []api.Side{{As: 5, Rel: 1}, {As: 100, Rel: 4 - rel}}}
			sa, toB := session.Start(api.Sess{}, a, 0)
			sb, toA := session.Start(api.Sess{}, b, 1)
			for len(toA)+len(toB) > 0 {
				if len(toA) > 0 {
					next, l, _ := session.Take(sa, a, 0, toA[0])
					sa, toA, toB = next, toA[1:], append(toB, l...)
				}
				if len(toB) > 0 {
					next, l, _ := session.Take(sb, b, 1, toB[0])
					sb, toB, toA = next, toB[1:], append(toA, l...)
				}
			}
			want := api.Sess{State: 3, Hold: min(hold, 30), Left: min(hold, 30), Keep: min(hold, 30) / 3}
			if sa != want || sb != want {
				t.Errorf("Rel %d, Hold %d: %+v %+v", rel, hold, sa, sb)
			}
		}
	}
}
