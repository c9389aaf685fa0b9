// Package octet is layer 1, numbers as octets: see shared/doc/01-octet.md.
package octet

// most is how many octets a number has at most.
const most = 4

// Put lays a number behind octets.
func Put(b []byte, v, n int) []byte {
	if n < 1 || n > most {
		return b
	}
	out := b[:len(b):len(b)] // without spare room, so that what others made of b stays as it is
	for i := range n {
		out = append(out, byte(v>>(8*(n-1-i))))
	}
	return out
}

// Get is the number that octets begin with, and the rest.
func Get(b []byte, n int) (int, []byte, bool) {
	if n < 1 || n > most {
		return 0, nil, false
	}
	head, rest, ok := Take(b, n)
	v := 0
	for _, o := range head {
		v = v<<8 | int(o)
	}
	return v, rest, ok
}

// Take are the first octets, and the rest.
func Take(b []byte, n int) ([]byte, []byte, bool) {
	if n < 0 || n > len(b) {
		return nil, nil, false
	}
	return b[:n:n], b[n:], true
}
