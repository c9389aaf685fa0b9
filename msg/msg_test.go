package msg_test

import (
	"bytes"
	"math"
	"testing"

	"ridgeway/api"
	"ridgeway/msg"
)

// raw are the octets of a head as told, and of a body, whether they go together or not.
func raw(size, kind int, body []byte) []byte {
	b := bytes.Repeat([]byte{0xff}, 16)
	return append(append(b, byte(size>>8), byte(size), byte(kind)), body...)
}

func same(a, b api.Msg) bool { return a.Type == b.Type && bytes.Equal(a.Body, b.Body) }

func sameNote(a, b api.Note) bool {
	return a.Code == b.Code && a.Sub == b.Sub && bytes.Equal(a.Data, b.Data)
}

func body(n int) []byte {
	b := make([]byte, n)
	for i := range b {
		b[i] = byte(i * 7)
	}
	return b
}

// P3.1
func TestLeast(t *testing.T) {
	for kind, size := range map[int]int{api.Open: 29, api.Update: 23, api.Notice: 21, api.Alive: 19, 0: 0, 5: 0, -1: 0, 255: 0, math.MaxInt: 0, math.MinInt: 0} {
		if got := msg.Least(kind); got != size {
			t.Errorf("Least(%d) = %d, want %d", kind, got, size)
		}
	}
}

// P3.1
func TestSane(t *testing.T) {
	for _, x := range []struct {
		kind, size int
		out        bool
	}{
		{api.Open, 9, false}, {api.Open, 10, true}, {api.Open, 4077, true}, {api.Open, 4078, false},
		{api.Update, 3, false}, {api.Update, 4, true}, {api.Update, 4077, true}, {api.Update, 4078, false},
		{api.Notice, 1, false}, {api.Notice, 2, true}, {api.Notice, 4077, true}, {api.Notice, 4078, false},
		{api.Alive, 0, true}, {api.Alive, 1, false}, {api.Alive, 4077, false},
		{0, 10, false}, {5, 10, false}, {-1, 0, false}, {5, 0, false}, {256 + 4, 0, false}, {math.MaxInt, 50, false}, {math.MinInt, 50, false},
		{api.Update, 70000, false},
	} {
		m := api.Msg{Type: x.kind, Body: body(x.size)}
		if got := msg.Sane(m); got != x.out {
			t.Errorf("Sane of type %d with %d octets = %v", x.kind, x.size, got)
		}
		b := msg.Put([]byte{1, 2}, m)
		if !x.out && !bytes.Equal(b, []byte{1, 2}) {
			t.Errorf("Put of type %d with %d octets, which may not be, = %v", x.kind, x.size, b)
		}
		if x.out && !bytes.Equal(b, append([]byte{1, 2}, raw(19+x.size, x.kind, m.Body)...)) {
			t.Errorf("Put of type %d with %d octets = %v", x.kind, x.size, b)
		}
	}
}

// P3.1
func TestPut(t *testing.T) {
	alive := append(bytes.Repeat([]byte{255}, 16), 0, 19, 4)
	if got := msg.Put(nil, api.Msg{Type: api.Alive}); !bytes.Equal(got, alive) {
		t.Errorf("Put of an Alive = %v", got)
	}
	note := append(bytes.Repeat([]byte{255}, 16), 0, 22, 3, 6, 4, 9)
	if got := msg.Put([]byte{5}, api.Msg{Type: api.Notice, Body: []byte{6, 4, 9}}); !bytes.Equal(got, append([]byte{5}, note...)) {
		t.Errorf("Put of a Notice = %v", got)
	}
}

// P3.2
func TestGet(t *testing.T) {
	unmarked := func(at int) []byte {
		b := raw(10, 9, nil) // all else is wrong, too
		b[at] = 0xfe
		return b
	}
	for _, x := range []struct {
		name string
		b    []byte
		n    api.Note
	}{
		{"first mark", unmarked(0), api.Note{Code: 1, Sub: 1}},
		{"middle mark", unmarked(7), api.Note{Code: 1, Sub: 1}},
		{"last mark", unmarked(15), api.Note{Code: 1, Sub: 1}},
		{"size 18", raw(18, api.Alive, nil), api.Note{Code: 1, Sub: 2, Data: []byte{0, 18}}},
		{"size 0", raw(0, api.Alive, nil), api.Note{Code: 1, Sub: 2, Data: []byte{0, 0}}},
		{"size 18 of no kind", raw(18, 9, nil), api.Note{Code: 1, Sub: 2, Data: []byte{0, 18}}},
		{"size 4097", raw(4097, api.Update, body(4078)), api.Note{Code: 1, Sub: 2, Data: []byte{16, 1}}},
		{"size 4097, not all there", raw(4097, api.Update, nil), api.Note{Code: 1, Sub: 2, Data: []byte{16, 1}}},
		{"size 65535 of no kind", raw(65535, 7, nil), api.Note{Code: 1, Sub: 2, Data: []byte{255, 255}}},
		{"kind 0", raw(19, 0, nil), api.Note{Code: 1, Sub: 3, Data: []byte{0}}},
		{"kind 5", raw(19, 5, nil), api.Note{Code: 1, Sub: 3, Data: []byte{5}}},
		{"kind 255, not all there", raw(4096, 255, nil), api.Note{Code: 1, Sub: 3, Data: []byte{255}}},
		{"small Open", raw(28, api.Open, body(9)), api.Note{Code: 1, Sub: 2, Data: []byte{0, 28}}},
		{"small Open, not all there", raw(28, api.Open, nil), api.Note{Code: 1, Sub: 2, Data: []byte{0, 28}}},
		{"small Update", raw(22, api.Update, body(3)), api.Note{Code: 1, Sub: 2, Data: []byte{0, 22}}},
		{"small Notice", raw(20, api.Notice, body(1)), api.Note{Code: 1, Sub: 2, Data: []byte{0, 20}}},
		{"great Alive", raw(20, api.Alive, body(1)), api.Note{Code: 1, Sub: 2, Data: []byte{0, 20}}},
		{"great Alive, not all there", raw(4096, api.Alive, nil), api.Note{Code: 1, Sub: 2, Data: []byte{16, 0}}},
		{"Update, not all there", raw(24, api.Update, body(4)), api.Note{}},
		{"greatest Update, but one octet", raw(4096, api.Update, body(4076)), api.Note{}},
		{"Open, head alone", raw(29, api.Open, nil), api.Note{}},
	} {
		m, size, n := msg.Get(x.b)
		if !same(m, api.Msg{}) || size != 0 || !sameNote(n, x.n) {
			t.Errorf("%s: %v %d %v, want %v", x.name, m, size, n, x.n)
		}
	}
}

// P3.2: of fewer than 19 octets nothing is wrong yet, whatever they are.
func TestGetOfLessThanAHead(t *testing.T) {
	for n := range 19 {
		for _, b := range [][]byte{make([]byte, n), raw(0, 0, nil)[:n], raw(4097, 9, nil)[:n]} {
			if m, size, note := msg.Get(b); !same(m, api.Msg{}) || size != 0 || !sameNote(note, api.Note{}) {
				t.Errorf("Get of %d octets = %v %d %v", n, m, size, note)
			}
		}
	}
	if m, size, note := msg.Get(make([]byte, 18, 40)); !same(m, api.Msg{}) || size != 0 || note.Code != 0 {
		t.Errorf("Get of 18 octets with room = %v %d %v", m, size, note)
	}
	if _, _, note := msg.Get(make([]byte, 19)); !sameNote(note, api.Note{Code: 1, Sub: 1}) {
		t.Errorf("Get of 19 octets 0 tells %v", note)
	}
}

// R3
func TestNothingHandedInIsChanged(t *testing.T) {
	b := raw(24, api.Update, body(9))
	old := bytes.Clone(b)
	m, _, _ := msg.Get(b)
	msg.Put(b, m)
	msg.Put(m.Body, m)
	if !bytes.Equal(b, old) {
		t.Errorf("changed to %v", b)
	}
}

// P3.3
func TestWhatIsPutIsGot(t *testing.T) {
	for _, m := range []api.Msg{
		{Type: api.Open, Body: body(10)}, {Type: api.Open, Body: body(265)}, {Type: api.Open, Body: body(4077)},
		{Type: api.Update, Body: body(4)}, {Type: api.Update, Body: body(300)}, {Type: api.Update, Body: body(4077)},
		{Type: api.Notice, Body: body(2)}, {Type: api.Notice, Body: body(4077)}, {Type: api.Alive},
	} {
		b := msg.Put(nil, m)
		for n := range b {
			if got, size, note := msg.Get(b[:n]); !same(got, api.Msg{}) || size != 0 || !sameNote(note, api.Note{}) {
				t.Fatalf("type %d, size %d: of %d octets there is %v %d %v", m.Type, len(b), n, got, size, note)
			}
		}
		for _, behind := range [][]byte{nil, {0}, body(50)} {
			got, size, note := msg.Get(append(bytes.Clone(b), behind...))
			if !same(got, m) || size != len(b) || size != 19+len(m.Body) || !sameNote(note, api.Note{}) {
				t.Errorf("type %d, size %d comes back as type %d, size %d, %v", m.Type, len(b), got.Type, size, note)
			}
		}
	}
}
