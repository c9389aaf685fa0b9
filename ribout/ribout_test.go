package ribout_test

import (
	"bytes"
	"math/rand"
	"slices"
	"testing"

	"ridgeway/api"
	"ridgeway/edge"
	"ridgeway/ribin"
	"ridgeway/ribout"
	"ridgeway/update"
)

func p(a, b, c, d, n int) api.Prefix {
	return api.Prefix{A: a<<24 | b<<16 | c<<8 | d, N: n}
}

func x(a int) api.Prefix { return p(a, 0, 0, 0, 8) }

// node is 100, with customer 11, peer 12 and provider 13; the peer and the provider are told what is its own and its customers', but not what is over 66.
func node() api.Conf {
	in := []api.Rule{{Act: 2, N: 100}}
	out := []api.Rule{{Match: 2, V: 66}, {Match: 4, V: 0, Act: 1}, {Match: 4, V: 1, Act: 3, N: 1}}
	return api.Conf{As: 100, Id: 0x0a000001, Hold: 90, Cap: 100, Sides: []api.Side{{As: 11, Rel: 1, In: in, Out: []api.Rule{{Act: 1}}}, {As: 12, Rel: 2, In: in, Out: out}, {As: 13, Rel: 3, In: in, Out: out}}}
}

func same(a, b []api.Entry) bool {
	return slices.EqualFunc(a, b, func(a, b api.Entry) bool { return a.X == b.X && samePath(a.P, b.P) })
}

func samePath(a, b api.Path) bool {
	return a.Origin == b.Origin && slices.Equal(a.As, b.As) && a.Hop == b.Hop && a.Otc == b.Otc
}

func own(a int) api.Choice {
	return api.Choice{X: x(a), R: api.Route{Pref: 400, P: api.Path{Hop: 0x0a000001}, From: -1}}
}

func from(a, k, otc int, as ...int) api.Choice {
	return api.Choice{X: x(a), R: api.Route{Pref: 100, P: api.Path{As: as, Hop: 5, Otc: otc}, From: k}}
}

// to is an entry of what node tells.
func to(a, otc int, as ...int) api.Entry {
	return api.Entry{X: x(a), P: api.Path{As: as, Hop: 0x0a000001, Otc: otc}}
}

type choices = []api.Choice
type table = []api.Entry

// P20.1
func TestWant(t *testing.T) {
	loc := choices{own(9), from(10, 0, 0, 11, 7), from(20, 0, 0, 11, 66), from(30, 1, 12, 12), own(40), from(50, 2, 13, 13)}
	bad := node()
	bad.As = 0
	for _, x := range []struct {
		name string
		c    api.Conf
		k    int
		loc  choices
		out  table
	}{
		{"nothing", node(), 0, nil, nil},
		{"to the customer", node(), 0, loc, table{to(9, 100, 100), to(30, 12, 100, 12), to(40, 100, 100), to(50, 13, 100, 13)}},
		{"to the peer", node(), 1, loc, table{to(9, 100, 100), to(10, 100, 100, 100, 11, 7), to(40, 100, 100)}},
		{"to the provider", node(), 2, loc, table{to(9, 0, 100), to(10, 0, 100, 100, 11, 7), to(40, 0, 100)}},
		{"to nobody", node(), 3, loc, nil},
		{"to side -1", node(), -1, loc, nil},
		{"of a node that may not be", bad, 0, loc, nil},
		{"of no node", api.Conf{}, 0, loc, nil},
		{"falling", node(), 0, choices{own(10), own(9)}, nil},
		{"falling at the end", node(), 0, append(slices.Clone(loc), own(49)), nil},
		{"one twice", node(), 0, choices{own(9), own(10), own(10)}, nil},
		{"no prefix", node(), 0, choices{own(9), {X: p(10, 0, 0, 1, 8), R: own(1).R}}, nil},
		{"no prefix by its bits", node(), 0, choices{own(9), {X: p(10, 0, 0, 0, 33), R: own(1).R}}, nil},
		{"no prefix, and no route", node(), 0, choices{{X: api.Prefix{A: -1}}, own(9)}, nil},
		{"a route that may not be", node(), 0, choices{own(9), {X: x(10)}, own(11)}, table{to(9, 100, 100), to(11, 100, 100)}},
		{"by bits", node(), 0, choices{{X: p(10, 0, 0, 0, 7), R: own(1).R}, own(10), {X: p(10, 0, 0, 0, 9), R: own(1).R}}, table{{X: p(10, 0, 0, 0, 7), P: to(1, 100, 100).P}, to(10, 100, 100), {X: p(10, 0, 0, 0, 9), P: to(1, 100, 100).P}}},
		{"falling by bits", node(), 0, choices{own(10), {X: p(10, 0, 0, 0, 7), R: own(1).R}}, nil},
	} {
		old := slices.Clone(x.loc)
		got := ribout.Want(x.c, x.k, x.loc)
		if !same(got, x.out) || !ribin.Sane(got) {
			t.Errorf("%s: %v, want %v", x.name, got, x.out)
		}
		if !slices.EqualFunc(x.loc, old, func(a, b api.Choice) bool { return a.X == b.X && samePath(a.R.P, b.R.P) }) {
			t.Errorf("%s: changed to %v", x.name, x.loc)
		}
	}
}

// packed are the messages of news, one behind the other.
func packed(l ...api.News) []api.Msg {
	var list []api.Msg
	for _, n := range l {
		list = append(list, update.Pack(n)...)
	}
	return list
}

func sameMsgs(a, b []api.Msg) bool {
	return slices.EqualFunc(a, b, func(a, b api.Msg) bool { return a.Type == b.Type && bytes.Equal(a.Body, b.Body) })
}

// P20.2
func TestMsgs(t *testing.T) {
	q := func(as ...int) api.Path { return api.Path{As: as, Hop: 9} }
	e := func(a int, as ...int) api.Entry { return api.Entry{X: x(a), P: q(as...)} }
	xs := func(l ...int) []api.Prefix {
		var list []api.Prefix
		for _, a := range l {
			list = append(list, x(a))
		}
		return list
	}
	other := func(a int, change func(p *api.Path)) api.Entry {
		r := e(a, 1, 2)
		change(&r.P)
		return r
	}
	origin := other(2, func(p *api.Path) { p.Origin = 1 })
	hop := other(3, func(p *api.Path) { p.Hop = 10 })
	otc := other(4, func(p *api.Path) { p.Otc = 1 })
	for _, c := range []struct {
		name      string
		old, want table
		out       []api.Msg
	}{
		{"nothing", nil, nil, nil},
		{"the same", table{e(1, 1), e(2, 2)}, table{e(1, 1), e(2, 2)}, nil},
		{"gone", table{e(1, 1), e(2, 2), e(3, 3)}, table{e(2, 2)}, packed(api.News{Gone: xs(1, 3)})},
		{"two with one path", nil, table{e(1, 1), e(2, 1)}, packed(api.News{P: q(1), Nlri: xs(1, 2)})},
		{"path by path", nil, table{e(1, 2), e(2, 1), e(3, 2), e(4, 3), e(5, 1)}, packed(api.News{P: q(2), Nlri: xs(1, 3)}, api.News{P: q(1), Nlri: xs(2, 5)}, api.News{P: q(3), Nlri: xs(4)})},
		{"another path", table{e(1, 1), e(2, 2)}, table{e(1, 2), e(2, 2), e(3, 2)}, packed(api.News{P: q(2), Nlri: xs(1, 3)})},
		{"gone first", table{e(5, 1)}, table{e(1, 1)}, packed(api.News{Gone: xs(5)}, api.News{P: q(1), Nlri: xs(1)})},
		{"paths that are unlike", nil, table{e(1, 1, 2), origin, hop, otc, e(5, 1, 2), e(6, 12), e(7, 2, 1), e(8)}, packed(
			api.News{P: q(1, 2), Nlri: xs(1, 5)}, api.News{P: origin.P, Nlri: xs(2)}, api.News{P: hop.P, Nlri: xs(3)}, api.News{P: otc.P, Nlri: xs(4)},
			api.News{P: q(12), Nlri: xs(6)}, api.News{P: q(2, 1), Nlri: xs(7)}, api.News{P: q(), Nlri: xs(8)})},
		{"ASes whose digits are alike", nil, table{e(1, 1, 23), e(2, 12, 3), e(3, 123), e(4, 1, 2, 3), e(5, 1, 23)}, packed(
			api.News{P: q(1, 23), Nlri: xs(1, 5)}, api.News{P: q(12, 3), Nlri: xs(2)}, api.News{P: q(123), Nlri: xs(3)}, api.News{P: q(1, 2, 3), Nlri: xs(4)})},
		{"old is no table", table{e(2, 1), e(1, 1)}, table{e(3, 1)}, packed(api.News{P: q(1), Nlri: xs(3)})},
		{"want is no table", table{e(1, 1), e(2, 1)}, table{e(3, 1), e(3, 1)}, packed(api.News{Gone: xs(1, 2)})},
	} {
		oldOld, oldWant := slices.Clone(c.old), slices.Clone(c.want)
		if got := ribout.Msgs(c.old, c.want); !sameMsgs(got, c.out) {
			t.Errorf("%s: %v, want %v", c.name, got, c.out)
		}
		if !same(c.old, oldOld) || !same(c.want, oldWant) {
			t.Errorf("%s: changed", c.name)
		}
	}
}

// P20.2: more prefixes than one message has.
func TestMsgsOfMany(t *testing.T) {
	var l table
	var xs []api.Prefix
	for i := range 2000 {
		e := api.Entry{X: p(10, i>>8, i&255, 0, 24), P: api.Path{As: []int{1}, Hop: 9}}
		l, xs = append(l, e), append(xs, e.X)
	}
	if got := ribout.Msgs(nil, l); len(got) != 2 || !sameMsgs(got, packed(api.News{P: l[0].P, Nlri: xs})) {
		t.Errorf("%d messages", len(got))
	}
	if got := ribout.Msgs(l, nil); len(got) != 2 || !sameMsgs(got, packed(api.News{Gone: xs})) {
		t.Errorf("%d messages of what is gone", len(got))
	}
}

// P20.3: who applies what is told has what is to be told; there are none just if both are the same; of tables at random.
func TestWhatIsToldLeadsToWhatIsToBeTold(t *testing.T) {
	r := rand.New(rand.NewSource(5))
	random := func() table {
		var l table
		for a := range 8 {
			if r.Intn(2) == 0 {
				l = append(l, api.Entry{X: x(a), P: api.Path{Origin: r.Intn(2), As: []int{1, 2, 3}[:r.Intn(4)], Hop: 9, Otc: r.Intn(2)}})
			}
		}
		return l
	}
	for range 1000 {
		old, want := random(), random()
		got := old
		list := ribout.Msgs(old, want)
		for _, m := range list {
			n, note := update.Get(m)
			next, ok := ribin.Apply(got, n, 100)
			if note.Code != 0 || !ok {
				t.Fatalf("%v %v", n, note)
			}
			got = next
		}
		if !same(got, want) || (len(list) == 0) != same(old, want) {
			t.Fatalf("from %v to %v: %v", old, want, got)
		}
	}
}

// P20.1: held against edge.Out.
func TestWantIsWhatGoes(t *testing.T) {
	loc := choices{own(1), from(2, 0, 0, 11), from(3, 1, 12, 12), from(4, 2, 9, 13), from(5, 0, 0, 11, 66), from(6, 2, 0, 13)}
	for k := range 3 {
		var want table
		for _, c := range loc {
			if q, ok := edge.Out(node(), k, c.X, c.R); ok {
				want = append(want, api.Entry{X: c.X, P: q})
			}
		}
		if got := ribout.Want(node(), k, loc); !same(got, want) {
			t.Errorf("to side %d: %v, want %v", k, got, want)
		}
	}
}
