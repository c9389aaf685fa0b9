package prefix_test

import (
	"bytes"
	"fmt"
	"math"
	"slices"
	"strings"
	"testing"

	"ridgeway/api"
	"ridgeway/prefix"
)

func p(a, b, c, d, n int) api.Prefix {
	return api.Prefix{A: a<<24 | b<<16 | c<<8 | d, N: n}
}

// some are prefixes of all lengths, and with all kinds of octets.
func some() []api.Prefix {
	var list []api.Prefix
	for n := 0; n <= 32; n++ {
		for _, a := range []int{0, 1<<32 - 1, 0x0a200000, 0xdeadbeef, 0x80000001, 0x01020304} {
			list = append(list, api.Prefix{A: a >> (32 - n) << (32 - n), N: n})
		}
	}
	return list
}

// none are values that are no prefixes.
func none() []api.Prefix {
	return []api.Prefix{{A: 0, N: 33}, {A: 0, N: -1}, {A: 1, N: 31}, {A: 1, N: 0}, {A: 0x0a000001, N: 8}, {A: 1 << 32, N: 0}, {A: 1 << 32, N: 32}, {A: -1, N: 32}, {A: -256, N: 24}, {A: math.MinInt, N: 0}, {A: math.MaxInt, N: 32}, {A: 0, N: math.MaxInt}, {A: 0, N: math.MinInt}}
}

// P2.1
func TestMask(t *testing.T) {
	for _, x := range []struct{ a, n, out int }{
		{0xffffffff, 0, 0},
		{0xffffffff, 1, 0x80000000},
		{0xffffffff, 11, 0xffe00000},
		{0xffffffff, 31, 0xfffffffe},
		{0xffffffff, 32, 0xffffffff},
		{0x0a2b3c4d, 8, 0x0a000000},
		{0x0a2b3c4d, 16, 0x0a2b0000},
		{0x0a2b3c4d, 20, 0x0a2b3000},
		{0x0a2b3c4d, 33, 0x0a2b3c4d},
		{0x0a2b3c4d, math.MaxInt, 0x0a2b3c4d},
		{0x0a2b3c4d, -1, 0},
		{0x0a2b3c4d, math.MinInt, 0},
		{1<<32 + 5, 32, 5},
		{1<<40 + 0x0a000001, 8, 0x0a000000},
		{-1, 32, 0xffffffff},
		{-1, 4, 0xf0000000},
		{-256, 40, 0xffffff00},
		{math.MinInt, 32, 0},
		{math.MaxInt, 32, 0xffffffff},
	} {
		if got := prefix.Mask(x.a, x.n); got != x.out {
			t.Errorf("Mask(%x, %d) = %x, want %x", x.a, x.n, got, x.out)
		}
	}
}

// P2.1
func TestSane(t *testing.T) {
	for _, x := range some() {
		if !prefix.Sane(x) {
			t.Errorf("%v is a prefix", x)
		}
	}
	for _, x := range none() {
		if prefix.Sane(x) {
			t.Errorf("%v is no prefix", x)
		}
	}
}

// P2.1
func TestHas(t *testing.T) {
	for _, x := range []struct {
		p, q api.Prefix
		out  bool
	}{
		{p(10, 0, 0, 0, 8), p(10, 32, 0, 0, 11), true},
		{p(10, 32, 0, 0, 11), p(10, 0, 0, 0, 8), false},
		{p(10, 0, 0, 0, 8), p(10, 0, 0, 0, 8), true},
		{p(10, 0, 0, 0, 8), p(10, 0, 0, 0, 7), false},
		{p(10, 0, 0, 0, 8), p(11, 0, 0, 0, 8), false},
		{p(10, 0, 0, 0, 8), p(11, 0, 0, 0, 16), false},
		{p(10, 0, 0, 0, 7), p(11, 0, 0, 0, 16), true},
		{p(0, 0, 0, 0, 0), p(255, 255, 255, 255, 32), true},
		{p(0, 0, 0, 0, 0), p(0, 0, 0, 0, 0), true},
		{p(255, 255, 255, 255, 32), p(255, 255, 255, 255, 32), true},
		{p(255, 255, 255, 254, 31), p(255, 255, 255, 255, 32), true},
		{p(255, 255, 255, 254, 32), p(255, 255, 255, 255, 32), false},
		{p(10, 0, 0, 1, 8), p(10, 0, 0, 1, 32), false},
		{p(10, 0, 0, 0, 8), p(10, 0, 0, 1, 31), false},
		{p(10, 0, 0, 0, 8), p(10, 0, 0, 0, 33), false},
		{p(0, 0, 0, 0, -1), p(10, 0, 0, 0, 8), false},
		{api.Prefix{A: 1 << 32, N: 0}, p(10, 0, 0, 0, 8), false},
		{p(0, 0, 0, 0, 0), api.Prefix{A: 1 << 32, N: 32}, false},
	} {
		if got := prefix.Has(x.p, x.q); got != x.out {
			t.Errorf("Has(%v, %v) = %v", x.p, x.q, got)
		}
	}
}

// P2.1: of any two, by A, and of one A by N.
func TestCompare(t *testing.T) {
	for _, x := range []struct {
		p, q api.Prefix
		out  int
	}{
		{p(10, 0, 0, 0, 8), p(10, 0, 0, 0, 8), 0},
		{p(10, 0, 0, 0, 8), p(10, 0, 0, 0, 9), -1},
		{p(10, 0, 0, 0, 9), p(10, 0, 0, 0, 8), 1},
		{p(9, 0, 0, 0, 30), p(10, 0, 0, 0, 8), -1},
		{p(11, 0, 0, 0, 8), p(10, 0, 0, 0, 30), 1},
		{p(200, 0, 0, 0, 8), p(10, 0, 0, 0, 8), 1},
		{api.Prefix{A: -1, N: 99}, api.Prefix{A: 0, N: -5}, -1},
		{api.Prefix{A: 1 << 40, N: -5}, api.Prefix{A: 1<<40 - 1, N: 99}, 1},
		{api.Prefix{A: 7, N: -5}, api.Prefix{A: 7, N: -6}, 1},
		{api.Prefix{A: math.MinInt, N: 0}, api.Prefix{A: math.MaxInt, N: 0}, -1},
		{api.Prefix{A: 3, N: math.MaxInt}, api.Prefix{A: 3, N: math.MinInt}, 1},
	} {
		if got := prefix.Compare(x.p, x.q); got != x.out {
			t.Errorf("Compare(%v, %v) = %d, want %d", x.p, x.q, got, x.out)
		}
	}
}

// P2.2
func TestPut(t *testing.T) {
	for _, x := range []struct {
		b   []byte
		p   api.Prefix
		out []byte
	}{
		{nil, p(10, 32, 0, 0, 11), []byte{11, 10, 32}},
		{[]byte{7, 7}, p(10, 0, 0, 0, 8), []byte{7, 7, 8, 10}},
		{[]byte{7}, p(0, 0, 0, 0, 0), []byte{7, 0}},
		{nil, p(128, 0, 0, 0, 1), []byte{1, 128}},
		{nil, p(10, 128, 0, 0, 9), []byte{9, 10, 128}},
		{nil, p(10, 1, 0, 0, 16), []byte{16, 10, 1}},
		{nil, p(10, 1, 0, 0, 17), []byte{17, 10, 1, 0}},
		{nil, p(10, 1, 2, 0, 24), []byte{24, 10, 1, 2}},
		{nil, p(10, 1, 2, 128, 25), []byte{25, 10, 1, 2, 128}},
		{nil, p(1, 2, 3, 4, 32), []byte{32, 1, 2, 3, 4}},
	} {
		if got := prefix.Put(x.b, x.p); !bytes.Equal(got, x.out) {
			t.Errorf("Put(%v, %v) = %v, want %v", x.b, x.p, got, x.out)
		}
	}
	for _, x := range none() {
		if got := prefix.Put([]byte{1, 2}, x); !bytes.Equal(got, []byte{1, 2}) {
			t.Errorf("Put of %v, which is no prefix, = %v", x, got)
		}
	}
}

// P2.2
func TestGet(t *testing.T) {
	for _, x := range []struct {
		b    []byte
		p    api.Prefix
		rest []byte
		ok   bool
	}{
		{[]byte{11, 10, 32, 5}, p(10, 32, 0, 0, 11), []byte{5}, true},
		{[]byte{11, 10, 63}, p(10, 32, 0, 0, 11), nil, true},
		{[]byte{1, 255, 255}, p(128, 0, 0, 0, 1), []byte{255}, true},
		{[]byte{0}, p(0, 0, 0, 0, 0), nil, true},
		{[]byte{0, 9}, p(0, 0, 0, 0, 0), []byte{9}, true},
		{[]byte{32, 1, 2, 3, 4}, p(1, 2, 3, 4, 32), nil, true},
		{[]byte{31, 1, 2, 3, 5}, p(1, 2, 3, 4, 31), nil, true},
		{[]byte{17, 10, 1, 255}, p(10, 1, 128, 0, 17), nil, true},
		{nil, api.Prefix{}, nil, false},
		{[]byte{33, 1, 2, 3, 4, 5}, api.Prefix{}, nil, false},
		{[]byte{255, 1, 2, 3, 4, 5}, api.Prefix{}, nil, false},
		{[]byte{1}, api.Prefix{}, nil, false},
		{[]byte{9, 1}, api.Prefix{}, nil, false},
		{[]byte{32, 1, 2, 3}, api.Prefix{}, nil, false},
	} {
		got, rest, ok := prefix.Get(x.b)
		if got != x.p || !bytes.Equal(rest, x.rest) || ok != x.ok {
			t.Errorf("Get(%v) = %v %v %v, want %v %v %v", x.b, got, rest, ok, x.p, x.rest, x.ok)
		}
	}
}

// P2.2
func TestAll(t *testing.T) {
	for _, x := range []struct {
		b    []byte
		list []api.Prefix
		ok   bool
	}{
		{nil, nil, true},
		{[]byte{0}, []api.Prefix{{}}, true},
		{[]byte{0, 0}, []api.Prefix{{}, {}}, true},
		{[]byte{8, 10, 11, 10, 63, 8, 10}, []api.Prefix{p(10, 0, 0, 0, 8), p(10, 32, 0, 0, 11), p(10, 0, 0, 0, 8)}, true},
		{[]byte{8, 10, 33, 1, 2, 3, 4, 5}, nil, false},
		{[]byte{8, 10, 9, 1}, nil, false},
		{[]byte{8}, nil, false},
	} {
		list, ok := prefix.All(x.b)
		if !slices.Equal(list, x.list) || ok != x.ok {
			t.Errorf("All(%v) = %v %v, want %v %v", x.b, list, ok, x.list, x.ok)
		}
	}
}

// P2.3
func TestText(t *testing.T) {
	for _, x := range []struct {
		p   api.Prefix
		out string
	}{
		{p(10, 32, 0, 0, 11), "10.32.0.0/11"},
		{p(0, 0, 0, 0, 0), "0.0.0.0/0"},
		{p(255, 255, 255, 255, 32), "255.255.255.255/32"},
		{p(1, 20, 103, 4, 30), "1.20.103.4/30"},
	} {
		if got := prefix.Text(x.p); got != x.out {
			t.Errorf("Text(%v) = %q, want %q", x.p, got, x.out)
		}
	}
	for _, x := range none() {
		if got := prefix.Text(x); got != "" {
			t.Errorf("Text of %v, which is no prefix, = %q", x, got)
		}
	}
}

// P2.3: whatever is not just what Text writes is the text of none.
func TestReadOfWhatIsNoText(t *testing.T) {
	for _, s := range []string{
		"", "/", ".", "...", ".../", "10.0.0.0", "10.0.0.0/", "/8", "10.0.0/8", "10.0.0.0.0/8", "10/8",
		"10.0.0.0/33", "10.0.0.0/-1", "10.0.0.0/+8", "10.0.0.0/08", "10.0.0.0/8/8", "10.0.0.0/8 ", " 10.0.0.0/8",
		"010.0.0.0/8", "10.00.0.0/8", "+10.0.0.0/8", "-10.0.0.0/8", "10.0.0.-0/8", "10. 0.0.0/8", "1_0.0.0.0/8",
		"256.0.0.0/8", "10.256.0.0/16", "10.0.0.999/32", "10.0.0.1/8", "10.33.0.0/11", "0.0.0.1/0",
		"10.0.0.0/8\n", "10.0.0.0\\8", "0x10.0.0.0/8", "a.b.c.d/8", "10.0.0.0/a", "10..0.0/8", "10.0.0.0/8é", "\xff",
		"18446744073709551626.0.0.0/8", "10.0.0.0/18446744073709551624", "4294967306.0.0.0/8", "0.0.0.0.10.0.0.0/8",
		"1.0.0.0.0.0.0.0.10.0.0.0/8", strings.Repeat("0.", 3000) + "0/0", strings.Repeat("9", 3000),
	} {
		if got, ok := prefix.Read(s); ok || got != (api.Prefix{}) {
			t.Errorf("Read(%q) = %v %v", s, got, ok)
		}
	}
}

// R3
func TestNothingHandedInIsChanged(t *testing.T) {
	b := []byte{11, 10, 63, 32, 1, 2, 3, 4}
	prefix.Get(b)
	prefix.All(b)
	prefix.Put(b, p(10, 0, 0, 0, 8))
	if !bytes.Equal(b, []byte{11, 10, 63, 32, 1, 2, 3, 4}) {
		t.Errorf("changed to %v", b)
	}
}

// P2.4
func TestWhatIsPutIsGotAndWhatIsWrittenIsRead(t *testing.T) {
	var b []byte
	for _, x := range some() {
		b = prefix.Put(b, x)
		got, rest, ok := prefix.Get(append(prefix.Put(nil, x), 1, 2))
		if got != x || !bytes.Equal(rest, []byte{1, 2}) || !ok {
			t.Errorf("%v is put, and got as %v %v %v", x, got, rest, ok)
		}
		s := fmt.Sprintf("%d.%d.%d.%d/%d", x.A>>24, x.A>>16&255, x.A>>8&255, x.A&255, x.N)
		if prefix.Text(x) != s {
			t.Errorf("Text(%v) = %q, want %q", x, prefix.Text(x), s)
		}
		if got, ok := prefix.Read(s); got != x || !ok {
			t.Errorf("%v is written, and read as %v %v", x, got, ok)
		}
	}
	if list, ok := prefix.All(b); !ok || !slices.Equal(list, some()) {
		t.Errorf("All of what was put one behind the other: %v", ok)
	}
}
