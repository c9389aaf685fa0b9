package octet_test

import (
	"bytes"
	"math"
	"testing"

	"ridgeway/octet"
)

// P1.1
func TestPutLaysTheHighestOctetFirst(t *testing.T) {
	for _, x := range []struct {
		b    []byte
		v, n int
		out  []byte
	}{
		{nil, 258, 2, []byte{1, 2}},
		{nil, 0, 1, []byte{0}},
		{nil, 255, 1, []byte{255}},
		{[]byte{9, 8}, 0x010203, 3, []byte{9, 8, 1, 2, 3}},
		{[]byte{7}, 0x01020304, 4, []byte{7, 1, 2, 3, 4}},
		{nil, 1<<32 - 1, 4, []byte{255, 255, 255, 255}},
		{nil, 5, 4, []byte{0, 0, 0, 5}},
	} {
		if got := octet.Put(x.b, x.v, x.n); !bytes.Equal(got, x.out) {
			t.Errorf("Put(%v, %d, %d) = %v, want %v", x.b, x.v, x.n, got, x.out)
		}
	}
}

// P1.1: the number counts modulo 256 to the power of n, and is 0 or more.
func TestPutCountsModulo(t *testing.T) {
	for _, x := range []struct {
		v, n int
		out  []byte
	}{
		{256, 1, []byte{0}},
		{257, 1, []byte{1}},
		{65536 + 7, 2, []byte{0, 7}},
		{1<<24 + 9, 3, []byte{0, 0, 9}},
		{1<<32 + 3, 4, []byte{0, 0, 0, 3}},
		{-1, 1, []byte{255}},
		{-1, 4, []byte{255, 255, 255, 255}},
		{-2, 2, []byte{255, 254}},
		{-256, 2, []byte{255, 0}},
		{math.MinInt, 4, []byte{0, 0, 0, 0}},
		{math.MaxInt, 3, []byte{255, 255, 255}},
	} {
		if got := octet.Put(nil, x.v, x.n); !bytes.Equal(got, x.out) {
			t.Errorf("Put(nil, %d, %d) = %v, want %v", x.v, x.n, got, x.out)
		}
	}
}

// P1.1: of another n it is b.
func TestPutOfAnotherCountIsWhatWasThere(t *testing.T) {
	for _, n := range []int{0, -1, 5, 8, math.MinInt, math.MaxInt} {
		if got := octet.Put([]byte{1, 2}, 77, n); !bytes.Equal(got, []byte{1, 2}) {
			t.Errorf("Put of %d octets = %v", n, got)
		}
		if got := octet.Put(nil, 77, n); len(got) != 0 {
			t.Errorf("Put of %d octets behind nothing = %v", n, got)
		}
	}
}

// R3
func TestNothingHandedInIsChanged(t *testing.T) {
	b := []byte{1, 2, 3, 4, 5}
	octet.Put(b, 9, 4)
	octet.Put(b[:2], 9, 0)
	octet.Get(b, 3)
	octet.Take(b, 2)
	if !bytes.Equal(b, []byte{1, 2, 3, 4, 5}) {
		t.Errorf("changed to %v", b)
	}
}

// P1.2
func TestGet(t *testing.T) {
	for _, x := range []struct {
		b    []byte
		n, v int
		rest []byte
		ok   bool
	}{
		{[]byte{1, 2, 9}, 2, 258, []byte{9}, true},
		{[]byte{200}, 1, 200, nil, true},
		{[]byte{1, 2, 3, 4, 5, 6}, 3, 0x010203, []byte{4, 5, 6}, true},
		{[]byte{255, 255, 255, 255}, 4, 1<<32 - 1, nil, true},
		{[]byte{0, 0, 0, 7}, 4, 7, nil, true},
		{[]byte{1}, 2, 0, nil, false},
		{[]byte{1, 2, 3}, 4, 0, nil, false},
		{nil, 1, 0, nil, false},
		{nil, 0, 0, nil, false},
		{[]byte{1, 2}, 0, 0, nil, false},
		{[]byte{1, 2}, -1, 0, nil, false},
		{[]byte{1, 2, 3, 4, 5, 6}, 5, 0, nil, false},
		{[]byte{1, 2}, math.MinInt, 0, nil, false},
		{[]byte{1, 2}, math.MaxInt, 0, nil, false},
	} {
		v, rest, ok := octet.Get(x.b, x.n)
		if v != x.v || !bytes.Equal(rest, x.rest) || ok != x.ok {
			t.Errorf("Get(%v, %d) = %d %v %v, want %d %v %v", x.b, x.n, v, rest, ok, x.v, x.rest, x.ok)
		}
	}
}

// P1.2
func TestTake(t *testing.T) {
	for _, x := range []struct {
		b          []byte
		n          int
		head, rest []byte
		ok         bool
	}{
		{[]byte("abc"), 2, []byte("ab"), []byte("c"), true},
		{[]byte("abc"), 0, nil, []byte("abc"), true},
		{[]byte("abc"), 3, []byte("abc"), nil, true},
		{[]byte("abcdefgh"), 7, []byte("abcdefg"), []byte("h"), true},
		{nil, 0, nil, nil, true},
		{[]byte("abc"), 4, nil, nil, false},
		{nil, 1, nil, nil, false},
		{[]byte("abc"), -1, nil, nil, false},
		{[]byte("abc"), math.MinInt, nil, nil, false},
		{[]byte("abc"), math.MaxInt, nil, nil, false},
	} {
		head, rest, ok := octet.Take(x.b, x.n)
		if !bytes.Equal(head, x.head) || !bytes.Equal(rest, x.rest) || ok != x.ok {
			t.Errorf("Take(%q, %d) = %q %q %v, want %q %q %v", x.b, x.n, head, rest, ok, x.head, x.rest, x.ok)
		}
	}
}

// P1.2: Take is of what there is, not of what there is room for.
func TestTakeDoesNotLookBehindTheEnd(t *testing.T) {
	b := make([]byte, 2, 10)
	if head, rest, ok := octet.Take(b, 3); head != nil || rest != nil || ok {
		t.Errorf("Take of 3 out of 2 = %v %v %v", head, rest, ok)
	}
}

// P1.3
func TestWhatIsPutIsGot(t *testing.T) {
	for n := 1; n <= 4; n++ {
		top := 1<<(8*n) - 1
		for _, v := range []int{0, 1, 2, 127, 128, 255, 256, 65535, 65536, 1 << 20, 1 << 24, top / 3, top - 1, top} {
			v &= top
			b := append(octet.Put([]byte{5}, v, n), 6, 7)
			got, rest, ok := octet.Get(b[1:], n)
			if got != v || !bytes.Equal(rest, []byte{6, 7}) || !ok || b[0] != 5 {
				t.Errorf("%d in %d octets comes back as %d, %v, %v", v, n, got, rest, ok)
			}
		}
	}
}
