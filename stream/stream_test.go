package stream_test

import (
	"bytes"
	"testing"

	"ridgeway/api"
	"ridgeway/msg"
	"ridgeway/stream"
)

func alive() []byte { return msg.Put(nil, api.Msg{Type: api.Alive}) }

func notice(sub byte) []byte {
	return msg.Put(nil, api.Msg{Type: api.Notice, Body: []byte{6, sub, 1, 2, 3}})
}

func update(n int) []byte {
	return msg.Put(nil, api.Msg{Type: api.Update, Body: bytes.Repeat([]byte{3}, n)})
}

// badType is a head of a type that there is not.
func badType() []byte { return append(bytes.Repeat([]byte{255}, 16), 0, 19, 9) }

func join(l ...[]byte) []byte { return bytes.Join(l, nil) }

func sameState(a, b stream.State) bool { return bytes.Equal(a.B, b.B) && a.Bad == b.Bad }

func sameNote(a, b api.Note) bool {
	return a.Code == b.Code && a.Sub == b.Sub && bytes.Equal(a.Data, b.Data)
}

// octets are those of messages, one behind the other.
func octets(l []api.Msg) []byte {
	var b []byte
	for _, m := range l {
		b = msg.Put(b, m)
	}
	return b
}

// P4.1
func TestSane(t *testing.T) {
	for _, x := range []struct {
		name string
		s    stream.State
		out  bool
	}{
		{"the beginning", stream.State{}, true},
		{"no octets", stream.State{B: []byte{}}, true},
		{"18 octets 0", stream.State{B: make([]byte, 18)}, true},
		{"19 octets 0", stream.State{B: make([]byte, 19)}, false},
		{"half an Alive", stream.State{B: alive()[:10]}, true},
		{"an Alive", stream.State{B: alive()}, false},
		{"an Alive and more", stream.State{B: join(alive(), alive()[:3])}, false},
		{"an Update but one octet", stream.State{B: update(50)[:68]}, true},
		{"the greatest Update but one octet", stream.State{B: update(4077)[:4095]}, true},
		{"the greatest Update", stream.State{B: update(4077)}, false},
		{"a type that there is not", stream.State{B: badType()}, false},
		{"bad", stream.State{Bad: true}, true},
		{"bad, no octets", stream.State{B: []byte{}, Bad: true}, true},
		{"bad with octets", stream.State{B: alive()[:10], Bad: true}, false},
	} {
		if got := stream.Sane(x.s); got != x.out {
			t.Errorf("%s: Sane = %v", x.name, got)
		}
	}
}

// P4.2
func TestFeed(t *testing.T) {
	bad := stream.State{Bad: true}
	noType := api.Note{Code: 1, Sub: 3, Data: []byte{9}}
	for _, x := range []struct {
		name string
		s    stream.State
		b    []byte
		next stream.State
		told []byte
		n    api.Note
	}{
		{"nothing", stream.State{}, nil, stream.State{}, nil, api.Note{}},
		{"half an Alive", stream.State{}, alive()[:9], stream.State{B: alive()[:9]}, nil, api.Note{}},
		{"the other half", stream.State{B: alive()[:9]}, alive()[9:], stream.State{}, alive(), api.Note{}},
		{"nothing behind a half", stream.State{B: alive()[:9]}, nil, stream.State{B: alive()[:9]}, nil, api.Note{}},
		{"several in order", stream.State{}, join(notice(1), alive(), update(9), notice(2)), stream.State{}, join(notice(1), alive(), update(9), notice(2)), api.Note{}},
		{"several and a piece", stream.State{B: notice(7)[:20]}, join(notice(7)[20:], update(4077), update(40)[:30]), stream.State{B: update(40)[:30]}, join(notice(7), update(4077)), api.Note{}},
		{"a note", stream.State{}, badType(), bad, nil, noType},
		{"a note behind messages", stream.State{B: alive()[:1]}, join(alive()[1:], update(5), badType(), alive()), bad, join(alive(), update(5)), noType},
		{"a note only once the head is there", stream.State{}, badType()[:18], stream.State{B: badType()[:18]}, nil, api.Note{}},
		{"a mark that is wrong", stream.State{B: make([]byte, 18)}, []byte{0}, bad, nil, api.Note{Code: 1, Sub: 1}},
		{"a bad one", bad, join(alive(), badType()), bad, nil, api.Note{}},
		{"a bad one, nothing", bad, nil, bad, nil, api.Note{}},
		{"bad with octets counts as the beginning", stream.State{B: alive()[:9], Bad: true}, alive(), stream.State{}, alive(), api.Note{}},
		{"a whole message kept counts as the beginning", stream.State{B: alive()}, notice(1), stream.State{}, notice(1), api.Note{}},
		{"what is wrong kept counts as the beginning", stream.State{B: badType()}, notice(1)[:5], stream.State{B: notice(1)[:5]}, nil, api.Note{}},
	} {
		next, told, n := stream.Feed(x.s, x.b)
		if !sameState(next, x.next) || !bytes.Equal(octets(told), x.told) || !sameNote(n, x.n) {
			t.Errorf("%s: %v %v %v", x.name, next, told, n)
		}
	}
}

// P4.3, and P1 of pieces of all kinds
func TestPiecesDoNotMatter(t *testing.T) {
	for _, x := range []struct {
		name string
		b    []byte
	}{
		{"good", join(notice(1), alive(), update(9), alive(), update(300), notice(2)[:20])},
		{"with a note", join(notice(1), alive(), update(9), badType(), alive(), alive())},
		{"small size", join(alive(), bytes.Repeat([]byte{255}, 16), []byte{0, 3, 1}, alive())},
	} {
		whole, list, n := stream.Feed(stream.State{}, x.b)
		for piece := 1; piece < len(x.b); piece++ {
			var s stream.State
			var told []api.Msg
			var note api.Note
			for at := 0; at < len(x.b); at += piece {
				next, l, m := stream.Feed(s, x.b[at:min(at+piece, len(x.b))])
				if !stream.Sane(next) {
					t.Fatalf("%s by %d: a state that may not be", x.name, piece)
				}
				s, told = next, append(told, l...)
				if m.Code != 0 {
					if note.Code != 0 {
						t.Fatalf("%s by %d: a second note", x.name, piece)
					}
					note = m
				}
			}
			if !sameState(s, whole) || !bytes.Equal(octets(told), octets(list)) || len(told) != len(list) || !sameNote(note, n) {
				t.Fatalf("%s by %d: %v %v %v", x.name, piece, s, told, note)
			}
		}
	}
}

// R3
func TestNothingHandedInIsChanged(t *testing.T) {
	s := stream.State{B: alive()[:9]}
	b := join(alive()[9:], update(9), notice(1)[:4])
	old := bytes.Clone(b)
	stream.Feed(s, b)
	if !bytes.Equal(b, old) || !bytes.Equal(s.B, alive()[:9]) {
		t.Errorf("changed to %v %v", s, b)
	}
}
