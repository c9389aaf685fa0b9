package update_test

import (
	"bytes"
	"slices"
	"testing"

	"ridgeway/api"
	"ridgeway/attr"
	"ridgeway/msg"
	"ridgeway/prefix"
	"ridgeway/update"
)

func p(a, b, c, d, n int) api.Prefix {
	return api.Prefix{A: a<<24 | b<<16 | c<<8 | d, N: n}
}

func same(a, b api.Msg) bool { return a.Type == b.Type && bytes.Equal(a.Body, b.Body) }

func samePath(a, b api.Path) bool {
	return a.Origin == b.Origin && slices.Equal(a.As, b.As) && a.Hop == b.Hop && a.Otc == b.Otc
}

func sameNews(a, b api.News) bool {
	return slices.Equal(a.Gone, b.Gone) && samePath(a.P, b.P) && slices.Equal(a.Nlri, b.Nlri)
}

func sameNote(a, b api.Note) bool {
	return a.Code == b.Code && a.Sub == b.Sub && bytes.Equal(a.Data, b.Data)
}

func path() api.Path { return api.Path{Origin: 1, As: []int{65001, 7}, Hop: 0x0a000001} }

// said are the octets of the attributes of path.
func said() []byte {
	return []byte{64, 1, 1, 1, 64, 2, 10, 2, 2, 0, 0, 253, 233, 0, 0, 0, 7, 64, 3, 4, 10, 0, 0, 1}
}

// many are unlike prefixes, of all lengths in turn from least on.
func many(n, least int) []api.Prefix {
	var l []api.Prefix
	for i := range n {
		bits := least + i%(33-least)
		l = append(l, api.Prefix{A: prefix.Mask((i*2654435761)&api.MaxNum, bits), N: bits})
	}
	return l
}

// P8.1
func TestSane(t *testing.T) {
	bad := []api.Prefix{{A: 1, N: 8}}
	good := []api.Prefix{p(10, 0, 0, 0, 8), {}}
	for _, x := range []struct {
		name string
		n    api.News
		out  bool
	}{
		{"nothing", api.News{}, true},
		{"no elements", api.News{Gone: []api.Prefix{}, P: api.Path{As: []int{}}, Nlri: []api.Prefix{}}, true},
		{"gone", api.News{Gone: good}, true},
		{"with a path", api.News{P: path(), Nlri: good}, true},
		{"both", api.News{Gone: good, P: path(), Nlri: good}, true},
		{"gone is no prefix", api.News{Gone: append(bad, good...), P: path(), Nlri: good}, false},
		{"the last gone is no prefix", api.News{Gone: append(slices.Clone(good), bad...)}, false},
		{"no prefix with a path", api.News{Gone: good, P: path(), Nlri: append(slices.Clone(good), bad...)}, false},
		{"a path that may not be", api.News{P: api.Path{}, Nlri: good}, false},
		{"a path that may not be by its ASes", api.News{P: api.Path{As: []int{0}, Hop: 1}, Nlri: good}, false},
		{"a path of nothing", api.News{Gone: good, P: path()}, false},
		{"an origin of nothing", api.News{P: api.Path{Origin: 1}}, false},
		{"an AS of nothing", api.News{P: api.Path{As: []int{1}}}, false},
		{"a hop of nothing", api.News{P: api.Path{Hop: 1}}, false},
		{"an Otc of nothing", api.News{P: api.Path{Otc: 1}}, false},
	} {
		if got := update.Sane(x.n); got != x.out {
			t.Errorf("%s: Sane = %v", x.name, got)
		}
		m := update.Put(x.n)
		if x.out != (m.Type == 2) || !x.out && !same(m, api.Msg{}) {
			t.Errorf("%s: Put = %v", x.name, m)
		}
		if l := update.Pack(x.n); !x.out && len(l) != 0 {
			t.Errorf("%s: Pack = %v", x.name, l)
		}
	}
}

// P8.1
func TestPut(t *testing.T) {
	for _, x := range []struct {
		name string
		n    api.News
		body []byte
	}{
		{"nothing", api.News{}, []byte{0, 0, 0, 0}},
		{"gone", api.News{Gone: []api.Prefix{p(10, 0, 0, 0, 8)}}, []byte{0, 2, 8, 10, 0, 0}},
		{"two gone", api.News{Gone: []api.Prefix{p(10, 32, 0, 0, 11), {}}}, []byte{0, 4, 11, 10, 32, 0, 0, 0}},
		{"with a path", api.News{P: path(), Nlri: []api.Prefix{p(10, 1, 0, 0, 16), p(9, 0, 0, 0, 8)}}, slices.Concat([]byte{0, 0, 0, 24}, said(), []byte{16, 10, 1, 8, 9})},
		{"both", api.News{Gone: []api.Prefix{p(10, 0, 0, 0, 8)}, P: path(), Nlri: []api.Prefix{{}}}, slices.Concat([]byte{0, 2, 8, 10, 0, 24}, said(), []byte{0})},
	} {
		if got := update.Put(x.n); !same(got, api.Msg{Type: 2, Body: x.body}) {
			t.Errorf("%s: %v, want %v", x.name, got, x.body)
		}
	}
	greatest := api.News{Gone: append(slices.Repeat([]api.Prefix{p(1, 2, 3, 4, 32)}, 814), p(10, 0, 0, 0, 16))}
	if got := update.Put(greatest); got.Type != 2 || len(got.Body) != 4077 || !msg.Sane(got) {
		t.Errorf("the greatest message has %d octets", len(got.Body))
	}
	greatest.Gone[814] = p(10, 0, 0, 0, 24)
	if got := update.Put(greatest); !same(got, api.Msg{}) {
		t.Errorf("a message of %d octets", len(got.Body))
	}
	if got := update.Put(api.News{Gone: slices.Repeat([]api.Prefix{{}}, 65536)}); !same(got, api.Msg{}) {
		t.Errorf("a message of %d octets", len(got.Body))
	}
}

// raw is an Update of octets as they are told.
func raw(parts ...[]byte) api.Msg { return api.Msg{Type: 2, Body: slices.Concat(parts...)} }

// P8.2
func TestGet(t *testing.T) {
	ten, nine := []byte{8, 10}, []byte{8, 9}
	x10, x9 := p(10, 0, 0, 0, 8), p(9, 0, 0, 0, 8)
	spoilt := []byte{64, 1, 1, 3}
	unread := []byte{64, 1, 9, 3}
	for _, x := range []struct {
		name string
		m    api.Msg
		n    api.News
	}{
		{"nothing", raw([]byte{0, 0, 0, 0}), api.News{}},
		{"gone", raw([]byte{0, 2}, ten, []byte{0, 0}), api.News{Gone: []api.Prefix{x10}}},
		{"with a path", raw([]byte{0, 0, 0, 24}, said(), ten, nine), api.News{P: path(), Nlri: []api.Prefix{x10, x9}}},
		{"both", raw([]byte{0, 2}, nine, []byte{0, 24}, said(), ten), api.News{Gone: []api.Prefix{x9}, P: path(), Nlri: []api.Prefix{x10}}},
		{"spoilt attributes", raw([]byte{0, 2}, nine, []byte{0, 4}, spoilt, ten), api.News{Gone: []api.Prefix{x9, x10}}},
		{"spoilt attributes, more prefixes", raw([]byte{0, 4}, ten, nine, []byte{0, 4}, spoilt, nine, ten), api.News{Gone: []api.Prefix{x10, x9, x9, x10}}},
		{"no attributes", raw([]byte{0, 0, 0, 0}, ten), api.News{Gone: []api.Prefix{x10}}},
		{"attributes that cannot be read", raw([]byte{0, 0, 0, 4}, unread, ten), api.News{Gone: []api.Prefix{x10}}},
		{"attributes that cannot be read behind a fatal one", raw([]byte{0, 0, 0, 7, 64, 9, 0}, unread, ten), api.News{Gone: []api.Prefix{x10}}},
		{"spoilt attributes of nothing", raw([]byte{0, 2}, nine, []byte{0, 4}, spoilt), api.News{Gone: []api.Prefix{x9}}},
		{"attributes of nothing that cannot be read", raw([]byte{0, 2}, nine, []byte{0, 4}, unread), api.News{Gone: []api.Prefix{x9}}},
		{"attributes of nothing", raw([]byte{0, 2}, nine, []byte{0, 24}, said()), api.News{Gone: []api.Prefix{x9}}},
		{"bits behind the prefixes", raw([]byte{0, 3, 9, 10, 255, 0, 24}, said(), []byte{1, 255}), api.News{Gone: []api.Prefix{p(10, 128, 0, 0, 9)}, P: path(), Nlri: []api.Prefix{p(128, 0, 0, 0, 1)}}},
	} {
		if n, note := update.Get(x.m); !sameNews(n, x.n) || !sameNote(note, api.Note{}) {
			t.Errorf("%s: %v %v, want %v", x.name, n, note, x.n)
		}
	}
}

// P8.2: what is wrong with a message, each thing ahead of those that come behind it.
func TestGetTellsWhatIsWrong(t *testing.T) {
	list := api.Note{Code: 3, Sub: 1}
	field := api.Note{Code: 3, Sub: 10}
	fatal := api.Note{Code: 3, Sub: 2, Data: []byte{64, 9, 1, 5}}
	for _, x := range []struct {
		name string
		m    api.Msg
		n    api.Note
	}{
		{"nothing", api.Msg{}, list},
		{"another type", api.Msg{Type: 1, Body: make([]byte, 20)}, list},
		{"three octets", raw([]byte{0, 0, 0}), list},
		{"too great", api.Msg{Type: 2, Body: make([]byte, 4078)}, list},
		{"gone prefixes missing", raw([]byte{0, 3, 8, 10}), list},
		{"the two octets behind missing", raw([]byte{0, 2, 8, 10}), list},
		{"half the two octets behind missing", raw([]byte{0, 2, 8, 10, 0}), list},
		{"attributes missing", raw([]byte{0, 0, 0, 25}, said()), list},
		{"many attributes missing", raw([]byte{0, 0, 255, 255}, said()), list},
		{"attributes missing behind gone ones that are none", raw([]byte{0, 2, 99, 99, 0, 1}), list},
		{"gone ones that are none", raw([]byte{0, 2, 33, 10, 0, 0}), field},
		{"gone ones with octets missing", raw([]byte{0, 2, 9, 10, 0, 0}), field},
		{"the last gone one has octets missing", raw([]byte{0, 3, 8, 10, 8, 0, 0}), field},
		{"none at the end", raw([]byte{0, 0, 0, 24}, said(), []byte{33, 1, 2, 3, 4, 5}), field},
		{"octets missing at the end", raw([]byte{0, 0, 0, 24}, said(), []byte{8, 10, 8}), field},
		{"gone ones that are none, fatal", raw([]byte{0, 1, 8, 0, 4, 64, 9, 1, 5}), field},
		{"none at the end, fatal", raw([]byte{0, 0, 0, 4, 64, 9, 1, 5, 8}), field},
		{"fatal", raw([]byte{0, 0, 0, 4, 64, 9, 1, 5, 8, 10}), fatal},
		{"fatal of nothing", raw([]byte{0, 2, 8, 10, 0, 4, 64, 9, 1, 5}), fatal},
		{"fatal behind others", raw([]byte{0, 0, 0, 28}, said(), []byte{64, 9, 1, 5, 8, 10}), fatal},
	} {
		if n, note := update.Get(x.m); !sameNews(n, api.News{}) || !sameNote(note, x.n) {
			t.Errorf("%s: %v %v, want %v", x.name, n, note, x.n)
		}
	}
}

// packed holds messages against the prefixes that they should have, as many in each as it can have.
func packed(t *testing.T, name string, list []api.Msg, l []api.Prefix, read func(n api.News) []api.Prefix) {
	t.Helper()
	for i, m := range list {
		n, note := update.Get(m)
		have := read(n)
		if note.Code != 0 || len(have) == 0 || len(have) > len(l) || !slices.Equal(have, l[:len(have)]) {
			t.Fatalf("%s: message %d says %v %v", name, i, n, note)
		}
		if len(n.Gone)+len(n.Nlri) != len(have) {
			t.Fatalf("%s: message %d has gone and other prefixes", name, i)
		}
		l = l[len(have):]
		size := 19 + len(m.Body)
		if size > api.MaxMsg || len(l) > 0 && size+len(prefix.Put(nil, l[0])) <= api.MaxMsg {
			t.Fatalf("%s: message %d has %d octets, and %d prefixes come behind it", name, i, size, len(l))
		}
	}
	if len(l) > 0 {
		t.Fatalf("%s: %d prefixes are missing", name, len(l))
	}
}

// P8.3
func TestPack(t *testing.T) {
	long := api.Path{As: slices.Repeat([]int{70000}, 255), Hop: 1, Otc: 5}
	for _, x := range []struct {
		name       string
		n          api.News
		gone, nlri int
	}{
		{"nothing", api.News{}, 0, 0},
		{"one gone", api.News{Gone: many(1, 8)}, 1, 0},
		{"one with a path", api.News{P: path(), Nlri: many(1, 8)}, 0, 1},
		{"both", api.News{Gone: many(2, 8), P: path(), Nlri: many(3, 8)}, 1, 1},
		{"814 gone leave three octets", api.News{Gone: slices.Repeat([]api.Prefix{p(1, 2, 3, 4, 32)}, 814)}, 1, 0},
		{"and three more octets", api.News{Gone: append(slices.Repeat([]api.Prefix{p(1, 2, 3, 4, 32)}, 814), p(9, 9, 0, 0, 16))}, 1, 0},
		{"and four more octets", api.News{Gone: append(slices.Repeat([]api.Prefix{p(1, 2, 3, 4, 32)}, 814), p(9, 9, 9, 0, 24))}, 2, 0},
		{"4073 of no bits", api.News{Gone: slices.Repeat([]api.Prefix{{}}, 4073)}, 1, 0},
		{"4074 of no bits", api.News{Gone: slices.Repeat([]api.Prefix{{}}, 4074)}, 2, 0},
		{"4049 of no bits beside a path", api.News{P: path(), Nlri: slices.Repeat([]api.Prefix{{}}, 4049)}, 0, 1},
		{"4050 of no bits beside a path", api.News{P: path(), Nlri: slices.Repeat([]api.Prefix{{}}, 4050)}, 0, 2},
		{"three messages of no bits", api.News{Gone: slices.Repeat([]api.Prefix{{}}, 4073*2+1)}, 3, 0},
		{"beside a long path", api.News{P: long, Nlri: slices.Repeat([]api.Prefix{p(1, 2, 3, 4, 32)}, 1210)}, 0, 2},
		{"beside a long path, one more", api.News{P: long, Nlri: slices.Repeat([]api.Prefix{p(1, 2, 3, 4, 32)}, 1211)}, 0, 3},
	} {
		list := update.Pack(x.n)
		if len(list) != x.gone+x.nlri {
			t.Errorf("%s: %d messages, want %d and %d", x.name, len(list), x.gone, x.nlri)
			continue
		}
		packed(t, x.name, list[:x.gone], x.n.Gone, func(n api.News) []api.Prefix { return n.Gone })
		packed(t, x.name, list[x.gone:], x.n.Nlri, func(n api.News) []api.Prefix { return n.Nlri })
		for _, m := range list[x.gone:] {
			if n, _ := update.Get(m); !samePath(n.P, x.n.P) {
				t.Errorf("%s: the path %v", x.name, n.P)
			}
		}
	}
}

// P8.4, R3
func TestWhatIsPutIsGot(t *testing.T) {
	for _, least := range []int{0, 8, 20} {
		for _, size := range []int{0, 1, 2, 50, 300} {
			for _, q := range []api.Path{path(), {Hop: 1}, {Origin: 2, As: slices.Repeat([]int{9}, 255), Hop: 1<<32 - 1, Otc: 7}} {
				n := api.News{Gone: many(size, least)}
				if size != 1 {
					n.P, n.Nlri = q, many(size/2+1, least)
				}
				old := api.News{Gone: slices.Clone(n.Gone), P: n.P, Nlri: slices.Clone(n.Nlri)}
				got, note := update.Get(update.Put(n))
				if !sameNews(got, n) || note.Code != 0 {
					t.Fatalf("%v comes back as %v %v", n, got, note)
				}
				update.Pack(n)
				if !sameNews(n, old) {
					t.Fatalf("changed to %v", n)
				}
			}
		}
	}
}

// P8.4: what is packed says the same, message by message.
func TestWhatIsPackedSaysTheSame(t *testing.T) {
	for _, least := range []int{0, 8, 25} {
		n := api.News{Gone: many(3000, least), P: path(), Nlri: many(5000, least)}
		var gone, nlri []api.Prefix
		for _, m := range update.Pack(n) {
			got, note := update.Get(m)
			if note.Code != 0 || len(got.Nlri) > 0 && !samePath(got.P, n.P) {
				t.Fatalf("a message says %v %v", got, note)
			}
			if len(got.Gone) > 0 && len(nlri) > 0 {
				t.Fatal("prefixes that are gone behind those that are not")
			}
			gone, nlri = append(gone, got.Gone...), append(nlri, got.Nlri...)
		}
		if !slices.Equal(gone, n.Gone) || !slices.Equal(nlri, n.Nlri) {
			t.Fatal("what is packed says something else")
		}
	}
}

// P8.2: a path that is too long to be told on is read as it is.
func TestGetOfALongPath(t *testing.T) {
	segments := bytes.Repeat(append([]byte{2, 200}, bytes.Repeat([]byte{0, 0, 0, 5}, 200)...), 2)
	var b []byte
	for _, a := range []api.Attr{{Flags: 64, Type: 1, Data: []byte{0}}, {Flags: 64, Type: 2, Data: segments}, {Flags: 64, Type: 3, Data: []byte{0, 0, 0, 9}}} {
		b = attr.Put(b, a)
	}
	n, note := update.Get(raw([]byte{0, 0, byte(len(b) >> 8), byte(len(b))}, b, []byte{8, 10}))
	want := api.News{P: api.Path{As: slices.Repeat([]int{5}, 400), Hop: 9}, Nlri: []api.Prefix{p(10, 0, 0, 0, 8)}}
	if !sameNews(n, want) || note.Code != 0 {
		t.Errorf("%v %v", n, note)
	}
}
