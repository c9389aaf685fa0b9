package speaker_test

import (
	"bytes"
	"math"
	"slices"
	"testing"

	"ridgeway/api"
	"ridgeway/attr"
	"ridgeway/decide"
	"ridgeway/msg"
	"ridgeway/note"
	"ridgeway/open"
	"ridgeway/speaker"
	"ridgeway/update"
)

func p(a, b, c, d, n int) api.Prefix {
	return api.Prefix{A: a<<24 | b<<16 | c<<8 | d, N: n}
}

func x(a int) api.Prefix { return p(a, 0, 0, 0, 8) }

// conf is 100, with customer 11, peer 12 and provider 13, and the prefix 50.0.0.0/8; all is taken and told.
func conf() api.Conf {
	side := func(as, rel, pref int) api.Side {
		return api.Side{As: as, Rel: rel, In: []api.Rule{{Act: 2, N: pref}}, Out: []api.Rule{{Act: 1}}}
	}
	return api.Conf{As: 100, Id: 0x0a000001, Hold: 90, Cap: 3, Own: []api.Prefix{x(50)}, Sides: []api.Side{side(11, 1, 300), side(12, 2, 200), side(13, 3, 100)}}
}

func bad() api.Conf {
	c := conf()
	c.Id = 0
	return c
}

func samePath(a, b api.Path) bool {
	return a.Origin == b.Origin && slices.Equal(a.As, b.As) && a.Hop == b.Hop && a.Otc == b.Otc
}

func sameTable(a, b []api.Entry) bool {
	return slices.EqualFunc(a, b, func(a, b api.Entry) bool { return a.X == b.X && samePath(a.P, b.P) })
}

func sameRules(a, b api.Side) bool {
	return a.As == b.As && a.Rel == b.Rel && slices.Equal(a.In, b.In) && slices.Equal(a.Out, b.Out)
}

func same(a, b api.Node) bool {
	c, d := a.C, b.C
	return c.As == d.As && c.Id == d.Id && c.Hold == d.Hold && c.Cap == d.Cap && slices.Equal(c.Own, d.Own) && slices.EqualFunc(c.Sides, d.Sides, sameRules) &&
		slices.Equal(a.S, b.S) && slices.EqualFunc(a.In, b.In, sameTable) && slices.EqualFunc(a.Out, b.Out, sameTable) && slices.EqualFunc(a.Buf, b.Buf, bytes.Equal)
}

// copied is a node that shares nothing that calls might change with n.
func copied(n api.Node) api.Node {
	n.S = slices.Clone(n.S)
	n.In, n.Out, n.Buf = slices.Clone(n.In), slices.Clone(n.Out), slices.Clone(n.Buf)
	for k := range n.In {
		n.In[k] = slices.Clone(n.In[k])
	}
	for k := range n.Out {
		n.Out[k] = slices.Clone(n.Out[k])
	}
	for k := range n.Buf {
		n.Buf[k] = bytes.Clone(n.Buf[k])
	}
	return n
}

// octets are those of messages.
func octets(l ...api.Msg) []byte {
	var b []byte
	for _, m := range l {
		b = msg.Put(b, m)
	}
	return b
}

func alive() api.Msg { return api.Msg{Type: 4} }

func hello(as, role int) api.Msg { return open.Put(api.Hello{As: as, Hold: 30, Id: 9, Role: role}) }

func noted(code, sub int, data ...byte) []byte {
	return octets(note.Put(api.Note{Code: code, Sub: sub, Data: data}))
}

// news is an Update that tells of some prefixes over some ASes.
func news(as []int, l ...api.Prefix) api.Msg {
	return update.Put(api.News{P: api.Path{As: as, Hop: 5}, Nlri: l})
}

func gone(l ...api.Prefix) api.Msg { return update.Put(api.News{Gone: l}) }

func as(l ...int) []int { return l }

// entry is what a table has of news.
func entry(a int, as ...int) api.Entry {
	return api.Entry{X: x(a), P: api.Path{As: as, Hop: 5}}
}

// hellos are what the neighbours of conf say.
func hellos() []api.Msg { return []api.Msg{hello(11, 3), hello(12, 4), hello(13, 0)} }

// up is the node with some sides Up, and nothing told.
func up(sides ...int) api.Node {
	n := speaker.New(conf())
	for _, k := range sides {
		n, _ = speaker.Start(n, k)
		n, _ = speaker.Feed(n, k, octets(hellos()[k], alive()))
	}
	return n
}

var upSess = api.Sess{State: 3, Hold: 30, Left: 30, Keep: 10}

// P21.1
func TestNew(t *testing.T) {
	n := speaker.New(conf())
	want := api.Node{C: conf(), S: make([]api.Sess, 3), In: make([][]api.Entry, 3), Out: make([][]api.Entry, 3), Buf: make([][]byte, 3)}
	if !same(n, want) || !speaker.Sane(n) {
		t.Errorf("New = %v", n)
	}
	if n := speaker.New(bad()); !same(n, api.Node{}) {
		t.Errorf("New of what may not be = %v", n)
	}
	if n := speaker.New(api.Conf{As: 7, Id: 7, Cap: 1}); len(n.S) != 0 || n.C.As != 7 || !speaker.Sane(n) {
		t.Errorf("New without sides = %v", n)
	}
}

// full is a node that has all that one may have.
func full() api.Node {
	n := up(0, 1)
	n, _ = speaker.Feed(n, 0, octets(news(as(11), x(10), x(20))))
	n, _ = speaker.Tell(n, 1)
	n, _ = speaker.Feed(n, 1, octets(alive())[:7])
	n, _ = speaker.Start(n, 2)
	n, _ = speaker.Feed(n, 2, octets(alive())[:3])
	return n
}

// broken are ways in which a node is one that may not be.
func broken() []func(n *api.Node) {
	type N = *api.Node
	return []func(n *api.Node){
		func(n N) { n.S = n.S[:2] },
		func(n N) { n.S = append(n.S, api.Sess{}) },
		func(n N) { n.In = n.In[:2] },
		func(n N) { n.In = append(n.In, nil) },
		func(n N) { n.Out = n.Out[:2] },
		func(n N) { n.Out = append(n.Out, nil) },
		func(n N) { n.Buf = n.Buf[:2] },
		func(n N) { n.Buf = append(n.Buf, nil) },
		func(n N) { n.S, n.In, n.Out, n.Buf = nil, nil, nil, nil },
		func(n N) { n.S[0].Left = 0 },
		func(n N) { n.S[2].State = 9 },
		func(n N) { n.S[1] = api.Sess{} },
		func(n N) { n.S[0] = api.Sess{State: 1, Left: 5} },
		func(n N) { n.S[2] = api.Sess{} },
		func(n N) { n.S[2], n.Buf[2] = api.Sess{}, []byte{255} },
		func(n N) { n.In[0][0].X.N = 4 },
		func(n N) { n.In[0][0], n.In[0][1] = n.In[0][1], n.In[0][0] },
		func(n N) { n.In[0] = []api.Entry{entry(1, 11), entry(2, 11), entry(3, 11), entry(4, 11)} },
		func(n N) { n.In[2] = []api.Entry{entry(1, 13)} },
		func(n N) { n.Out[0] = []api.Entry{entry(2, 11), entry(1, 11)} },
		func(n N) { n.Out[2] = []api.Entry{entry(1, 13)} },
		func(n N) { n.Buf[0] = octets(alive()) },
		func(n N) { n.Buf[1] = make([]byte, 19) },
		func(n N) { n.Buf[2] = make([]byte, 30) },
	}
}

// P21.1: a node that may not be counts as the one that begins anew.
func TestSane(t *testing.T) {
	if !speaker.Sane(full()) || len(full().In[0]) != 2 || len(full().Out[1]) == 0 || len(full().Buf[1]) != 7 || len(full().Buf[2]) != 3 {
		t.Fatalf("%v", full())
	}
	if speaker.Sane(api.Node{}) || speaker.Sane(api.Node{C: conf()}) {
		t.Error("nothing may be")
	}
	more := copied(full())
	more.Out[0] = []api.Entry{entry(1, 11), entry(2, 11), entry(3, 11), entry(4, 11)}
	if !speaker.Sane(more) {
		t.Error("Cap is not for what is told")
	}
	fresh := speaker.New(conf())
	for i, change := range broken() {
		n := copied(full())
		change(&n)
		if speaker.Sane(n) {
			t.Errorf("%d: %v may be", i, n)
		}
		counts(t, n, fresh)
	}
	n := copied(full())
	n.C = bad()
	if speaker.Sane(n) {
		t.Errorf("%v may be", n)
	}
	counts(t, n, api.Node{})
	counts(t, api.Node{}, api.Node{})
}

// counts holds what all calls make of a node against what they make of another one.
func counts(t *testing.T, n, as api.Node) {
	t.Helper()
	for k := -1; k < 4; k++ {
		a, ab := speaker.Start(n, k)
		b, bb := speaker.Start(as, k)
		if !same(a, b) || !bytes.Equal(ab, bb) {
			t.Errorf("Start(%v, %d) = %v", n, k, a)
		}
		for _, f := range []func(n api.Node) (api.Node, []byte){
			func(n api.Node) (api.Node, []byte) { return speaker.Stop(n, k, api.Note{Code: 6, Sub: 4}) },
			func(n api.Node) (api.Node, []byte) { return speaker.Feed(n, k, octets(alive())) },
			func(n api.Node) (api.Node, []byte) { return speaker.Tell(n, k) },
		} {
			if a, b := f(n); !same(a, as) || len(b) != 0 {
				t.Errorf("of %v at %d: %v %v", n, k, a, b)
			}
		}
		if speaker.Pending(n, k) {
			t.Errorf("Pending(%v, %d)", n, k)
		}
	}
	a, told := speaker.Tick(n, 500)
	if !same(a, as) || len(told) != len(as.S) || len(slices.Concat(told...)) != 0 {
		t.Errorf("Tick(%v) = %v %v", n, a, told)
	}
	if !decide.Same(speaker.Loc(n), decide.Loc(as.C, as.In)) {
		t.Errorf("Loc(%v) = %v", n, speaker.Loc(n))
	}
}

// P21.1
func TestLoc(t *testing.T) {
	n := full()
	l := speaker.Loc(n)
	if len(l) != 3 || l[0].X != x(10) || l[1].X != x(20) || l[2].X != x(50) || l[0].R.Pref != 300 || l[2].R.From != -1 || !decide.Same(l, decide.Loc(n.C, n.In)) {
		t.Errorf("Loc = %v", l)
	}
}

// P21.1: of sides that there are not.
func TestOfNoSide(t *testing.T) {
	n := full()
	for _, k := range []int{-1, 3, math.MaxInt, math.MinInt} {
		a, ab := speaker.Start(n, k)
		b, bb := speaker.Stop(n, k, api.Note{Code: 6, Sub: 4})
		c, cb := speaker.Feed(n, k, octets(alive()))
		d, db := speaker.Tell(n, k)
		if !same(a, n) || !same(b, n) || !same(c, n) || !same(d, n) || len(ab)+len(bb)+len(cb)+len(db) > 0 || speaker.Pending(n, k) {
			t.Errorf("of side %d", k)
		}
	}
}

// P21.2
func TestStartAndStop(t *testing.T) {
	n := speaker.New(conf())
	n, b := speaker.Start(n, 1)
	if n.S[1] != (api.Sess{State: 1, Left: 240}) || n.S[0] != (api.Sess{}) || !bytes.Equal(b, octets(open.Put(api.Hello{As: 100, Hold: 90, Id: 0x0a000001, Role: 4}))) {
		t.Errorf("Start = %v %v", n, b)
	}
	if again, b := speaker.Start(n, 1); !same(again, n) || len(b) != 0 {
		t.Errorf("Start again = %v %v", again, b)
	}
	n, b = speaker.Stop(n, 1, api.Note{Code: 6, Sub: 4, Data: []byte{7}})
	if !same(n, speaker.New(conf())) || !bytes.Equal(b, noted(6, 4, 7)) {
		t.Errorf("Stop = %v %v", n, b)
	}
	if again, b := speaker.Stop(n, 1, api.Note{Code: 6, Sub: 4}); !same(again, n) || len(b) != 0 {
		t.Errorf("Stop again = %v %v", again, b)
	}
}

// P21.2: a session that comes to be Idle loses In, Out and Buf; those of other sides stay.
func TestStopLosesWhatWasThere(t *testing.T) {
	n := full()
	for k := range 3 {
		want := copied(n)
		want.S[k], want.In[k], want.Out[k], want.Buf[k] = api.Sess{}, nil, nil, nil
		if got, b := speaker.Stop(n, k, api.Note{Code: 6, Sub: 4}); !same(got, want) || !bytes.Equal(b, noted(6, 4)) {
			t.Errorf("Stop of side %d = %v %v", k, got, b)
		}
		if got, b := speaker.Stop(n, k, api.Note{}); !same(got, want) || len(b) != 0 {
			t.Errorf("Stop of side %d with no note = %v %v", k, got, b)
		}
	}
}

// P21.3
func TestFeed(t *testing.T) {
	sent, _ := speaker.Start(speaker.New(conf()), 0)
	fatal := octets(api.Msg{Type: 2, Body: []byte{0, 0, 0, 3, 64, 9, 0}})
	list := octets(api.Msg{Type: 2, Body: []byte{0, 9, 0, 0}})
	noType := append(bytes.Repeat([]byte{255}, 16), 0, 19, 9)
	hi, pre := octets(hello(11, 3)), octets(alive())
	ten := octets(news(as(11, 7), x(10)))
	for _, c := range []struct {
		name string
		n    api.Node
		b    []byte
		s    api.Sess
		in   []api.Entry
		buf  []byte
		told []byte
	}{
		{"Idle", speaker.New(conf()), slices.Concat(hi, pre), api.Sess{}, nil, nil, nil},
		{"Idle, what is no message", speaker.New(conf()), noType, api.Sess{}, nil, nil, nil},
		{"nothing", sent, nil, api.Sess{State: 1, Left: 240}, nil, nil, nil},
		{"a piece", sent, hi[:20], api.Sess{State: 1, Left: 240}, nil, hi[:20], nil},
		{"an Open", sent, hi, api.Sess{State: 2, Hold: 30, Left: 30, Keep: 10}, nil, nil, pre},
		{"an Open and an Alive", sent, slices.Concat(hi, pre), upSess, nil, nil, pre},
		{"an Open, an Alive, an Update, a piece", sent, slices.Concat(hi, pre, ten, pre[:5]), upSess, []api.Entry{entry(10, 11, 7)}, pre[:5], pre},
		{"another AS's Open", sent, slices.Concat(octets(hello(12, 3)), pre), api.Sess{}, nil, nil, noted(2, 2)},
		{"an Alive too early", sent, slices.Concat(pre, hi, pre[:5]), api.Sess{}, nil, nil, noted(5, 1)},
		{"Updates", up(0), slices.Concat(ten, octets(news(as(11, 8), x(9), x(10)), gone(x(9), x(77)))), upSess, []api.Entry{entry(10, 11, 8)}, nil, nil},
		{"what the node does not take is kept, too", up(0), octets(news(as(9), x(10))), upSess, []api.Entry{entry(10, 9)}, nil, nil},
		{"as many as Cap", up(0), octets(news(as(11), x(1), x(2), x(3))), upSess, []api.Entry{entry(1, 11), entry(2, 11), entry(3, 11)}, nil, nil},
		{"one more than Cap", up(0), octets(news(as(11), x(1), x(2), x(3), x(4)), alive()), api.Sess{}, nil, nil, noted(6, 1)},
		{"one more than Cap behind others", up(0), octets(news(as(11), x(1), x(2), x(3)), news(as(11), x(4))), api.Sess{}, nil, nil, noted(6, 1)},
		{"one for another", up(0), octets(news(as(11), x(1), x(2), x(3)), gone(x(1)), news(as(11), x(4))), upSess, []api.Entry{entry(2, 11), entry(3, 11), entry(4, 11)}, nil, nil},
		{"an Update that is fatal", up(0), slices.Concat(ten, fatal, pre[:5]), api.Sess{}, nil, nil, noted(3, 2, 64, 9, 0)},
		{"an Update that cannot be read", up(0), slices.Concat(list, ten), api.Sess{}, nil, nil, noted(3, 1)},
		{"an Update that is spoilt", up(0), slices.Concat(ten, octets(api.Msg{Type: 2, Body: []byte{0, 0, 0, 0, 8, 10}})), upSess, nil, nil, nil},
		{"a Notice", up(0), slices.Concat(ten, noted(6, 4), hi, pre[:5]), api.Sess{}, nil, nil, nil},
		{"an Open of one that is Up", up(0), slices.Concat(ten, hi), api.Sess{}, nil, nil, noted(5, 3)},
		{"what is no message", up(0), noType, api.Sess{}, nil, nil, noted(1, 3, 9)},
		{"what is no message behind some", sent, slices.Concat(hi, noType, pre), api.Sess{}, nil, nil, slices.Concat(pre, noted(1, 3, 9))},
		{"what is no message behind the end", up(0), slices.Concat(noted(6, 4), noType), api.Sess{}, nil, nil, nil},
		{"what is no message behind another end", up(0), slices.Concat(hi, noType), api.Sess{}, nil, nil, noted(5, 3)},
		{"no mark", up(0), make([]byte, 19), api.Sess{}, nil, nil, noted(1, 1)},
	} {
		want := copied(c.n)
		want.S[0], want.In[0], want.Buf[0] = c.s, c.in, c.buf
		old := copied(c.n)
		got, told := speaker.Feed(c.n, 0, c.b)
		if !same(got, want) || !bytes.Equal(told, c.told) || !speaker.Sane(got) {
			t.Errorf("%s: %v %v, want %v %v", c.name, got, told, want, c.told)
		}
		if !same(c.n, old) {
			t.Errorf("%s: changed to %v", c.name, c.n)
		}
	}
}

// P21.3: the Left of a session that was fed is what it was to begin with.
func TestFeedKeepsASessionUp(t *testing.T) {
	n, _ := speaker.Tick(up(0, 1), 7)
	for _, m := range []api.Msg{alive(), news(as(11), x(10)), gone(x(10))} {
		got, _ := speaker.Feed(n, 0, octets(m))
		if got.S[0] != (api.Sess{State: 3, Hold: 30, Left: 30, Keep: 3}) || got.S[1] != (api.Sess{State: 3, Hold: 30, Left: 23, Keep: 3}) {
			t.Errorf("type %d: %v", m.Type, got.S)
		}
	}
}

// P21.4
func TestTick(t *testing.T) {
	n := full()
	n, _ = speaker.Feed(n, 0, nil)
	pre := octets(alive())
	for _, c := range []struct {
		secs int
		s    []api.Sess
		told [][]byte
	}{
		{0, n.S, [][]byte{nil, nil, nil}},
		{-5, n.S, [][]byte{nil, nil, nil}},
		{9, []api.Sess{{State: 3, Hold: 30, Left: 21, Keep: 1}, {State: 3, Hold: 30, Left: 21, Keep: 1}, {State: 1, Left: 231}}, [][]byte{nil, nil, nil}},
		{25, []api.Sess{{State: 3, Hold: 30, Left: 5, Keep: 5}, {State: 3, Hold: 30, Left: 5, Keep: 5}, {State: 1, Left: 215}}, [][]byte{slices.Concat(pre, pre), slices.Concat(pre, pre), nil}},
		{30, []api.Sess{{}, {}, {State: 1, Left: 210}}, [][]byte{slices.Concat(pre, pre, noted(4, 0)), slices.Concat(pre, pre, noted(4, 0)), nil}},
		{math.MaxInt, []api.Sess{{}, {}, {}}, [][]byte{slices.Concat(pre, pre, noted(4, 0)), slices.Concat(pre, pre, noted(4, 0)), noted(4, 0)}},
	} {
		want := copied(n)
		want.S = c.s
		for k, s := range c.s {
			if s.State == 0 {
				want.In[k], want.Out[k], want.Buf[k] = nil, nil, nil
			}
		}
		old := copied(n)
		got, told := speaker.Tick(n, c.secs)
		if !same(got, want) || !slices.EqualFunc(told, c.told, bytes.Equal) || !speaker.Sane(got) {
			t.Errorf("%d seconds: %v %v", c.secs, got, told)
		}
		if !same(n, old) {
			t.Errorf("%d seconds: changed to %v", c.secs, n)
		}
	}
}

// P21.5
func TestTell(t *testing.T) {
	n := up(0, 1, 2)
	own := func(otc int) api.Entry {
		return api.Entry{X: x(50), P: api.Path{As: []int{100}, Hop: 0x0a000001, Otc: otc}}
	}
	ten := api.Entry{X: x(10), P: api.Path{As: []int{100, 11}, Hop: 0x0a000001}}
	n, _ = speaker.Feed(n, 0, octets(news(as(11), x(10))))
	for _, c := range []struct {
		k   int
		out []api.Entry
	}{{0, []api.Entry{own(100)}}, {1, []api.Entry{{X: x(10), P: api.Path{As: []int{100, 11}, Hop: 0x0a000001, Otc: 100}}, own(100)}}, {2, []api.Entry{ten, own(0)}}} {
		var l []api.Msg
		for _, e := range c.out {
			l = append(l, update.Put(api.News{P: e.P, Nlri: []api.Prefix{e.X}}))
		}
		want := copied(n)
		want.Out[c.k] = c.out
		old := copied(n)
		got, told := speaker.Tell(n, c.k)
		if !same(got, want) || !bytes.Equal(told, octets(l...)) || !speaker.Pending(n, c.k) {
			t.Errorf("to side %d: %v %v", c.k, got, told)
		}
		if !same(n, old) {
			t.Errorf("to side %d: changed to %v", c.k, n)
		}
		if again, told := speaker.Tell(got, c.k); !same(again, got) || len(told) != 0 || speaker.Pending(got, c.k) {
			t.Errorf("to side %d again: %v %v", c.k, again, told)
		}
	}
	n, _ = speaker.Tell(n, 2)
	n, _ = speaker.Feed(n, 0, octets(gone(x(10))))
	want := copied(n)
	want.Out[2] = []api.Entry{own(0)}
	if !speaker.Pending(n, 2) {
		t.Error("what is gone is to be told")
	}
	if got, told := speaker.Tell(n, 2); !same(got, want) || !bytes.Equal(told, octets(gone(x(10)))) {
		t.Errorf("what is gone: %v %v", got, told)
	}
}

// P21.5: of sessions that are not Up.
func TestTellOfOthers(t *testing.T) {
	idle := speaker.New(conf())
	sent, _ := speaker.Start(idle, 0)
	confirm, _ := speaker.Feed(sent, 0, octets(hello(11, 3)))
	for _, n := range []api.Node{idle, sent, confirm} {
		if got, told := speaker.Tell(n, 0); !same(got, n) || len(told) != 0 || speaker.Pending(n, 0) {
			t.Errorf("Tell = %v %v", got, told)
		}
	}
	if !speaker.Pending(up(0), 0) || speaker.Pending(up(0), 1) {
		t.Error("Pending")
	}
}

// P21.6: in whichever pieces octets come, the node is the same behind them, and tells the same.
func TestPiecesDoNotMatter(t *testing.T) {
	sent, _ := speaker.Start(up(1), 0)
	var long []byte
	for _, a := range attr.Of(api.Path{As: slices.Repeat([]int{11}, 70), Hop: 3}) {
		long = attr.Put(long, a)
	}
	begin := octets(hello(11, 3), alive(), news(as(11, 7), x(10), x(20)))
	for name, b := range map[string][]byte{
		"good":      slices.Concat(begin, octets(gone(x(20)), alive(), api.Msg{Type: 2, Body: slices.Concat([]byte{0, 0, byte(len(long) >> 8), byte(len(long))}, long, []byte{8, 30})}), octets(alive())[:9]),
		"too many":  slices.Concat(begin, octets(news(as(11), x(1), x(2)), alive())),
		"a Notice":  slices.Concat(begin, noted(6, 2), begin),
		"an Open":   slices.Concat(begin, begin),
		"no type":   slices.Concat(begin, bytes.Repeat([]byte{255}, 16), []byte{0, 19, 9}, begin),
		"no mark":   slices.Concat(begin, make([]byte, 30), begin),
		"fatal":     slices.Concat(begin, octets(api.Msg{Type: 2, Body: []byte{0, 0, 0, 3, 64, 9, 0}}), begin),
		"too early": slices.Concat(octets(alive()), begin),
	} {
		whole, told := speaker.Feed(sent, 0, b)
		for size := 1; size < len(b); size++ {
			n, all := sent, []byte(nil)
			for piece := range slices.Chunk(b, size) {
				next, more := speaker.Feed(n, 0, piece)
				if !speaker.Sane(next) {
					t.Fatalf("%s by %d: %v may not be", name, size, next)
				}
				n, all = next, append(all, more...)
			}
			if !same(n, whole) || !bytes.Equal(all, told) {
				t.Fatalf("%s by %d: %v %v, want %v %v", name, size, n, all, whole, told)
			}
		}
	}
}

// The chapter's example: started on both ends, and fed with what the other one tells, two nodes are Up.
func TestTwoNodesAreUp(t *testing.T) {
	a := speaker.New(conf())
	b := speaker.New(api.Conf{As: 13, Id: 13, Hold: 0, Cap: 1, Sides: []api.Side{{As: 100, Rel: 1}}})
	a, toB := speaker.Start(a, 2)
	b, toA := speaker.Start(b, 0)
	for len(toA)+len(toB) > 0 {
		nextB, tellA := speaker.Feed(b, 0, toB)
		nextA, tellB := speaker.Feed(a, 2, toA)
		a, b, toA, toB = nextA, nextB, tellA, tellB
	}
	if a.S[2] != (api.Sess{State: 3}) || b.S[0] != (api.Sess{State: 3}) {
		t.Errorf("%v %v", a.S, b.S)
	}
}
