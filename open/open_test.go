package open_test

import (
	"bytes"
	"math"
	"testing"

	"ridgeway/api"
	"ridgeway/open"
)

func same(a, b api.Msg) bool { return a.Type == b.Type && bytes.Equal(a.Body, b.Body) }

func sameNote(a, b api.Note) bool {
	return a.Code == b.Code && a.Sub == b.Sub && bytes.Equal(a.Data, b.Data)
}

// raw is a message from AS 7, Hold 90, Id 10.0.0.1 with parameters.
func raw(params ...byte) api.Msg {
	return api.Msg{Type: 1, Body: append([]byte{4, 0, 7, 0, 90, 10, 0, 0, 1, byte(len(params))}, params...)}
}

// with is raw with the one capability that is needed, but some octets of it otherwise.
func with(change map[int]byte) api.Msg {
	m := raw(2, 6, 65, 4, 0, 0, 0, 7)
	for at, o := range change {
		m.Body[at] = o
	}
	return m
}

var (
	short   = api.Note{Code: 2, Sub: 0}
	version = api.Note{Code: 2, Sub: 1, Data: []byte{0, 4}}
	peer    = api.Note{Code: 2, Sub: 2}
	id      = api.Note{Code: 2, Sub: 3}
	param   = api.Note{Code: 2, Sub: 4}
	hold    = api.Note{Code: 2, Sub: 6}
	missing = api.Note{Code: 2, Sub: 7, Data: []byte{65, 0}}
	roles   = api.Note{Code: 2, Sub: 11}
)

// P6.1
func TestSane(t *testing.T) {
	good := api.Hello{As: 65001, Hold: 90, Id: 0x0a000001, Role: -1}
	for _, x := range []struct {
		change func(h *api.Hello)
		out    bool
	}{
		{func(h *api.Hello) {}, true},
		{func(h *api.Hello) { h.As = 1 }, true},
		{func(h *api.Hello) { h.As = 1<<32 - 1 }, true},
		{func(h *api.Hello) { h.As = 0 }, false},
		{func(h *api.Hello) { h.As = -1 }, false},
		{func(h *api.Hello) { h.As = 1 << 32 }, false},
		{func(h *api.Hello) { h.As = math.MaxInt }, false},
		{func(h *api.Hello) { h.Hold = 0 }, true},
		{func(h *api.Hello) { h.Hold = 1 }, false},
		{func(h *api.Hello) { h.Hold = 2 }, false},
		{func(h *api.Hello) { h.Hold = 3 }, true},
		{func(h *api.Hello) { h.Hold = 65535 }, true},
		{func(h *api.Hello) { h.Hold = 65536 }, false},
		{func(h *api.Hello) { h.Hold = -1 }, false},
		{func(h *api.Hello) { h.Id = 1 }, true},
		{func(h *api.Hello) { h.Id = 1<<32 - 1 }, true},
		{func(h *api.Hello) { h.Id = 0 }, false},
		{func(h *api.Hello) { h.Id = 1 << 32 }, false},
		{func(h *api.Hello) { h.Id = math.MinInt }, false},
		{func(h *api.Hello) { h.Role = 0 }, true},
		{func(h *api.Hello) { h.Role = 4 }, true},
		{func(h *api.Hello) { h.Role = -2 }, false},
		{func(h *api.Hello) { h.Role = math.MinInt }, false},
		{func(h *api.Hello) { h.Role = 5 }, false},
		{func(h *api.Hello) { h.Role = 255 }, false},
		{func(h *api.Hello) { h.Role = math.MaxInt }, false},
		{func(h *api.Hello) { *h = api.Hello{} }, false},
	} {
		h := good
		x.change(&h)
		if got := open.Sane(h); got != x.out {
			t.Errorf("Sane(%+v) = %v", h, got)
		}
		if m := open.Put(h); (m.Type == 1) != x.out || !x.out && !same(m, api.Msg{}) {
			t.Errorf("Put(%+v) = %v", h, m)
		}
	}
}

// P6.1
func TestPut(t *testing.T) {
	for _, x := range []struct {
		h    api.Hello
		body []byte
	}{
		{api.Hello{As: 70000, Hold: 90, Id: 0x0a000001, Role: -1}, []byte{4, 91, 160, 0, 90, 10, 0, 0, 1, 8, 2, 6, 65, 4, 0, 1, 17, 112}},
		{api.Hello{As: 65001, Hold: 0, Id: 0x0a000001, Role: 3}, []byte{4, 253, 233, 0, 0, 10, 0, 0, 1, 13, 2, 6, 65, 4, 0, 0, 253, 233, 2, 3, 9, 1, 3}},
		{api.Hello{As: 65535, Hold: 65535, Id: 1<<32 - 1, Role: 0}, []byte{4, 255, 255, 255, 255, 255, 255, 255, 255, 13, 2, 6, 65, 4, 0, 0, 255, 255, 2, 3, 9, 1, 0}},
		{api.Hello{As: 65536, Hold: 3, Id: 1, Role: 4}, []byte{4, 91, 160, 0, 3, 0, 0, 0, 1, 13, 2, 6, 65, 4, 0, 1, 0, 0, 2, 3, 9, 1, 4}},
		{api.Hello{As: 23456, Hold: 300, Id: 256, Role: -1}, []byte{4, 91, 160, 1, 44, 0, 0, 1, 0, 8, 2, 6, 65, 4, 0, 0, 91, 160}},
	} {
		if got := open.Put(x.h); !same(got, api.Msg{Type: 1, Body: x.body}) {
			t.Errorf("Put(%+v) = %v, want %v", x.h, got, x.body)
		}
	}
}

// P6.2: a message that says a hello.
func TestGet(t *testing.T) {
	for _, x := range []struct {
		name string
		m    api.Msg
		h    api.Hello
	}{
		{"no role", with(nil), api.Hello{As: 7, Hold: 90, Id: 0x0a000001, Role: -1}},
		{"Hold 0", with(map[int]byte{4: 0}), api.Hello{As: 7, Hold: 0, Id: 0x0a000001, Role: -1}},
		{"Hold 3", with(map[int]byte{4: 3}), api.Hello{As: 7, Hold: 3, Id: 0x0a000001, Role: -1}},
		{"Hold 257", with(map[int]byte{3: 1, 4: 1}), api.Hello{As: 7, Hold: 257, Id: 0x0a000001, Role: -1}},
		{"role ahead", raw(2, 3, 9, 1, 2, 2, 6, 65, 4, 0, 0, 0, 7), api.Hello{As: 7, Hold: 90, Id: 0x0a000001, Role: 2}},
		{"role that is none", raw(2, 9, 65, 4, 0, 0, 0, 7, 9, 1, 255), api.Hello{As: 7, Hold: 90, Id: 0x0a000001, Role: 255}},
		{"role told twice", raw(2, 9, 65, 4, 0, 0, 0, 7, 9, 1, 0, 2, 3, 9, 1, 0), api.Hello{As: 7, Hold: 90, Id: 0x0a000001, Role: 0}},
		{"the first AS counts", raw(2, 12, 65, 4, 0, 0, 0, 7, 65, 4, 0, 0, 0, 8), api.Hello{As: 7, Hold: 90, Id: 0x0a000001, Role: -1}},
		{"other capabilities", raw(2, 0, 2, 2, 1, 0, 2, 15, 70, 3, 9, 9, 9, 65, 4, 0, 0, 0, 7, 2, 2, 65, 65), api.Hello{As: 7, Hold: 90, Id: 0x0a000001, Role: -1}},
	} {
		if h, n := open.Get(x.m, 7); h != x.h || !sameNote(n, api.Note{}) {
			t.Errorf("%s: %+v %v, want %+v", x.name, h, n, x.h)
		}
	}
}

// P6.2: what is wrong with a message, each thing ahead of those that come behind it.
func TestGetTellsWhatIsWrong(t *testing.T) {
	for _, x := range []struct {
		name string
		m    api.Msg
		n    api.Note
	}{
		{"nothing", api.Msg{}, short},
		{"another type", api.Msg{Type: 2, Body: with(nil).Body}, short},
		{"no body", api.Msg{Type: 1}, short},
		{"nine octets", api.Msg{Type: 1, Body: []byte{4, 0, 7, 0, 90, 10, 0, 0, 1}}, short},
		{"nine octets of another version", api.Msg{Type: 1, Body: make([]byte, 9)}, short},
		{"too great", api.Msg{Type: 1, Body: make([]byte, 4078)}, short},
		{"version 3", with(map[int]byte{0: 3}), version},
		{"version 5, and all else", api.Msg{Type: 1, Body: append([]byte{5}, make([]byte, 50)...)}, version},
		{"fewer octets than told", with(map[int]byte{9: 9}), short},
		{"more octets than told", with(map[int]byte{9: 7}), short},
		{"octets, but none told", with(map[int]byte{9: 0}), short},
		{"many octets", api.Msg{Type: 1, Body: append(with(nil).Body, make([]byte, 256)...)}, short},
		{"a parameter's type alone", raw(2, 6, 65, 4, 0, 0, 0, 7, 2), short},
		{"another parameter's type alone", raw(2, 6, 65, 4, 0, 0, 0, 7, 1), short},
		{"a parameter with octets missing", raw(2, 7, 65, 4, 0, 0, 0, 7), short},
		{"another parameter with octets missing", raw(1, 9, 65), short},
		{"another parameter", raw(1, 0, 2, 6, 65, 4, 0, 0, 0, 7), param},
		{"another parameter behind", raw(2, 6, 65, 4, 0, 0, 0, 7, 3, 1, 0), param},
		{"another parameter ahead of octets missing", raw(1, 0, 2, 9, 65), param},
		{"another parameter behind a wrong capability", raw(2, 1, 70, 1, 0), short},
		{"another parameter ahead of a wrong capability", raw(1, 0, 2, 1, 70), param},
		{"a capability's code alone", raw(2, 7, 65, 4, 0, 0, 0, 7, 70), short},
		{"a capability with octets missing", raw(2, 7, 65, 5, 0, 0, 0, 7, 1), short},
		{"another capability with octets missing", raw(2, 9, 65, 4, 0, 0, 0, 7, 70, 2, 1), short},
		{"a capability that goes over its parameter", raw(2, 4, 65, 4, 0, 0, 2, 2, 0, 7), short},
		{"three octets of AS", raw(2, 5, 65, 3, 0, 0, 7), short},
		{"five octets of AS", raw(2, 7, 65, 5, 0, 0, 0, 7, 0), short},
		{"a second AS of no octets", raw(2, 8, 65, 4, 0, 0, 0, 7, 65, 0), short},
		{"a role of no octets", raw(2, 8, 65, 4, 0, 0, 0, 7, 9, 0), short},
		{"a role of two octets", raw(2, 10, 65, 4, 0, 0, 0, 7, 9, 2, 0, 0), short},
		{"two roles", raw(2, 12, 65, 4, 0, 0, 0, 7, 9, 1, 0, 9, 1, 3), roles},
		{"two roles in two parameters", raw(2, 9, 65, 4, 0, 0, 0, 7, 9, 1, 0, 2, 3, 9, 1, 4), roles},
		{"three roles", raw(2, 15, 65, 4, 0, 0, 0, 7, 9, 1, 3, 9, 1, 3, 9, 1, 0), roles},
		{"two roles, no AS", raw(2, 6, 9, 1, 0, 9, 1, 3), roles},
		{"two roles ahead of another parameter", raw(2, 6, 9, 1, 0, 9, 1, 3, 1, 0), roles},
		{"two roles behind another parameter", raw(1, 0, 2, 6, 9, 1, 0, 9, 1, 3), param},
		{"two roles ahead of a short AS", raw(2, 8, 9, 1, 0, 9, 1, 3, 65, 0), roles},
		{"two roles behind a short AS", raw(2, 8, 65, 0, 9, 1, 0, 9, 1, 3), short},
		{"no parameters", raw(), missing},
		{"no AS", raw(2, 3, 9, 1, 0), missing},
		{"no AS, Hold 1, Id 0", api.Msg{Type: 1, Body: []byte{4, 0, 9, 0, 1, 0, 0, 0, 0, 0}}, missing},
		{"AS 8", with(map[int]byte{2: 8, 17: 8}), peer},
		{"AS 0", with(map[int]byte{2: 0, 17: 0}), peer},
		{"AS 0, and a second one", raw(2, 12, 65, 4, 0, 0, 0, 0, 65, 4, 0, 0, 0, 7), peer},
		{"two octets of another AS", with(map[int]byte{2: 8}), peer},
		{"two octets 23456", with(map[int]byte{1: 91, 2: 160}), peer},
		{"another AS, Hold 1, Id 0", with(map[int]byte{2: 8, 4: 1, 5: 0, 8: 0}), peer},
		{"Hold 1", with(map[int]byte{4: 1}), hold},
		{"Hold 2", with(map[int]byte{4: 2}), hold},
		{"Hold 2, Id 0", with(map[int]byte{4: 2, 5: 0, 8: 0}), hold},
		{"Id 0", with(map[int]byte{5: 0, 8: 0}), id},
	} {
		if h, n := open.Get(x.m, 7); h != (api.Hello{}) || !sameNote(n, x.n) {
			t.Errorf("%s: %+v %v, want %v", x.name, h, n, x.n)
		}
	}
}

// P6.2: of an AS that two octets do not hold.
func TestGetOfAGreatAs(t *testing.T) {
	great := api.Msg{Type: 1, Body: []byte{4, 91, 160, 0, 90, 10, 0, 0, 1, 8, 2, 6, 65, 4, 0, 1, 17, 112}}
	if h, n := open.Get(great, 70000); h != (api.Hello{As: 70000, Hold: 90, Id: 0x0a000001, Role: -1}) || n.Code != 0 {
		t.Errorf("AS 70000: %+v %v", h, n)
	}
	for _, as := range []int{0, -1, 4464, 23456, 70001, 1<<32 + 70000, math.MaxInt} {
		if h, n := open.Get(great, as); h != (api.Hello{}) || !sameNote(n, peer) {
			t.Errorf("AS 70000 from %d: %+v %v", as, h, n)
		}
	}
	great.Body[1], great.Body[2] = 17, 112
	if h, n := open.Get(great, 70000); h != (api.Hello{}) || !sameNote(n, peer) {
		t.Errorf("AS 70000 with its low octets: %+v %v", h, n)
	}
	zero := with(map[int]byte{2: 0, 17: 0})
	if h, n := open.Get(zero, 0); h != (api.Hello{}) || !sameNote(n, peer) {
		t.Errorf("AS 0 from 0: %+v %v", h, n)
	}
}

// P6.3, R3
func TestWhatIsPutIsGot(t *testing.T) {
	for _, as := range []int{1, 7, 255, 256, 23455, 23456, 23457, 65534, 65535, 65536, 70000, 1 << 31, 1<<32 - 1} {
		for _, hold := range []int{0, 3, 90, 256, 65535} {
			for _, id := range []int{1, 0x0a000001, 1<<32 - 1} {
				for role := -1; role <= 4; role++ {
					h := api.Hello{As: as, Hold: hold, Id: id, Role: role}
					m := open.Put(h)
					old := bytes.Clone(m.Body)
					if got, n := open.Get(m, as); got != h || !sameNote(n, api.Note{}) {
						t.Fatalf("%+v comes back as %+v %v", h, got, n)
					}
					if !bytes.Equal(m.Body, old) {
						t.Fatalf("%v is changed to %v", old, m.Body)
					}
				}
			}
		}
	}
}

// P1: of a message of which any octet is otherwise there is a hello, or a note, and not both.
func TestGetOfAnyOctet(t *testing.T) {
	base := open.Put(api.Hello{As: 7, Hold: 90, Id: 9, Role: 3})
	for at := range base.Body {
		for o := range 256 {
			m := api.Msg{Type: 1, Body: bytes.Clone(base.Body)}
			m.Body[at] = byte(o)
			h, n := open.Get(m, 7)
			if (h == api.Hello{}) != (n.Code == 2) || n.Code != 0 && n.Code != 2 {
				t.Fatalf("octet %d is %d: %+v %v", at, o, h, n)
			}
		}
	}
}
