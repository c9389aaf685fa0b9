package note_test

import (
	"bytes"
	"math"
	"slices"
	"strconv"
	"testing"

	"ridgeway/api"
	"ridgeway/note"
)

func same(a, b api.Msg) bool { return a.Type == b.Type && bytes.Equal(a.Body, b.Body) }

func sameNote(a, b api.Note) bool {
	return a.Code == b.Code && a.Sub == b.Sub && bytes.Equal(a.Data, b.Data)
}

// P5.1
func TestSaneAndPut(t *testing.T) {
	for _, x := range []struct {
		code, sub, size int
		out             bool
	}{
		{1, 0, 0, true}, {255, 255, 4075, true}, {6, 4, 0, true}, {2, 2, 3, true}, {77, 0, 1, true},
		{0, 0, 0, false}, {0, 5, 2, false}, {-1, 0, 0, false}, {256, 0, 0, false}, {257, 1, 0, false},
		{1, -1, 0, false}, {1, 256, 0, false}, {1, 0, 4076, false}, {1, 0, 70000, false},
		{math.MinInt, 1, 0, false}, {math.MaxInt, 1, 0, false}, {1, math.MinInt, 0, false}, {1, math.MaxInt, 0, false},
	} {
		n := api.Note{Code: x.code, Sub: x.sub, Data: bytes.Repeat([]byte{9}, x.size)}
		if got := note.Sane(n); got != x.out {
			t.Errorf("Sane of %d, %d with %d octets = %v", x.code, x.sub, x.size, got)
		}
		want := api.Msg{}
		if x.out {
			want = api.Msg{Type: 3, Body: append([]byte{byte(x.code), byte(x.sub)}, n.Data...)}
		}
		if got := note.Put(n); !same(got, want) {
			t.Errorf("Put of %d, %d with %d octets = %v", x.code, x.sub, x.size, got)
		}
	}
}

// P5.1
func TestGet(t *testing.T) {
	for _, x := range []struct {
		m  api.Msg
		n  api.Note
		ok bool
	}{
		{api.Msg{Type: 3, Body: []byte{6, 4}}, api.Note{Code: 6, Sub: 4}, true},
		{api.Msg{Type: 3, Body: []byte{2, 7, 65, 0}}, api.Note{Code: 2, Sub: 7, Data: []byte{65, 0}}, true},
		{api.Msg{Type: 3, Body: []byte{255, 0, 0}}, api.Note{Code: 255, Sub: 0, Data: []byte{0}}, true},
		{api.Msg{Type: 3, Body: bytes.Repeat([]byte{9}, 4077)}, api.Note{Code: 9, Sub: 9, Data: bytes.Repeat([]byte{9}, 4075)}, true},
		{api.Msg{Type: 3, Body: bytes.Repeat([]byte{9}, 4078)}, api.Note{}, false},
		{api.Msg{Type: 3, Body: []byte{0, 4}}, api.Note{}, false},
		{api.Msg{Type: 3, Body: []byte{0, 4, 5, 6}}, api.Note{}, false},
		{api.Msg{Type: 3, Body: []byte{6}}, api.Note{}, false},
		{api.Msg{Type: 3}, api.Note{}, false},
		{api.Msg{Type: 2, Body: []byte{6, 4, 0, 0}}, api.Note{}, false},
		{api.Msg{Type: 1, Body: bytes.Repeat([]byte{6}, 20)}, api.Note{}, false},
		{api.Msg{Type: 4}, api.Note{}, false},
		{api.Msg{Type: 0, Body: []byte{6, 4}}, api.Note{}, false},
		{api.Msg{Type: -3, Body: []byte{6, 4}}, api.Note{}, false},
		{api.Msg{Type: 259, Body: []byte{6, 4}}, api.Note{}, false},
		{api.Msg{}, api.Note{}, false},
	} {
		if n, ok := note.Get(x.m); !sameNote(n, x.n) || ok != x.ok {
			t.Errorf("Get of type %d with %d octets = %v %v", x.m.Type, len(x.m.Body), n, ok)
		}
	}
}

// P5.2
func TestKnown(t *testing.T) {
	known := map[int][]int{
		1: {1, 2, 3},
		2: {1, 2, 3, 4, 6, 7, 11},
		3: {1, 2, 3, 4, 5, 6, 8, 9, 10, 11},
		4: {0},
		5: {0, 1, 2, 3},
		6: {1, 2, 3, 4, 5, 6, 7, 8, 9, 10},
	}
	others := []int{math.MinInt, math.MaxInt, -70000, 70000, 1 << 32, 64, 255, 256, 257}
	for code := -20; code < 30; code++ {
		for sub := -20; sub < 80; sub++ {
			if got := note.Known(code, sub); got != slices.Contains(known[code], sub) {
				t.Errorf("Known(%d, %d) = %v", code, sub, got)
			}
		}
		for _, x := range others {
			if note.Known(code, x) || note.Known(x, code) {
				t.Errorf("known: %d with %d", code, x)
			}
		}
	}
}

// P5.2
func TestName(t *testing.T) {
	names := map[int]string{1: "header", 2: "open", 3: "update", 4: "hold", 5: "fsm", 6: "cease"}
	for _, code := range []int{1, 2, 3, 4, 5, 6, 0, 7, 8, 255, 256, 1000, -1, -6, -77, math.MinInt, math.MaxInt} {
		for _, sub := range []int{0, 1, 11, 255, 300, -1, -12, math.MinInt, math.MaxInt} {
			want := names[code]
			if want == "" {
				want = strconv.Itoa(code)
			}
			want += "/" + strconv.Itoa(sub)
			if got := note.Name(api.Note{Code: code, Sub: sub, Data: []byte{1}}); got != want {
				t.Errorf("Name of %d, %d = %q, want %q", code, sub, got, want)
			}
		}
	}
	for _, x := range []struct {
		n   api.Note
		out string
	}{{api.Note{Code: 2, Sub: 11}, "open/11"}, {api.Note{}, "0/0"}, {api.Note{Code: -3, Sub: -4}, "-3/-4"}} {
		if got := note.Name(x.n); got != x.out {
			t.Errorf("Name of %v = %q, want %q", x.n, got, x.out)
		}
	}
}

// P5.3, R3
func TestWhatIsPutIsGot(t *testing.T) {
	for code := 1; code < 256; code++ {
		for _, data := range [][]byte{nil, {0}, {65, 0}, bytes.Repeat([]byte{1, 2, 3}, 1358), bytes.Repeat([]byte{7}, 4075)} {
			n := api.Note{Code: code, Sub: 255 - code, Data: data}
			old := bytes.Clone(data)
			if got, ok := note.Get(note.Put(n)); !sameNote(got, n) || !ok {
				t.Errorf("%d, %d with %d octets comes back as %v %v", n.Code, n.Sub, len(data), got, ok)
			}
			if !bytes.Equal(data, old) {
				t.Errorf("changed to %v", data)
			}
		}
	}
}
