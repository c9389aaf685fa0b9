package attr_test

import (
	"bytes"
	"math"
	"slices"
	"testing"

	"ridgeway/api"
	"ridgeway/attr"
)

func same(a, b api.Attr) bool {
	return a.Flags == b.Flags && a.Type == b.Type && bytes.Equal(a.Data, b.Data)
}

func samePath(a, b api.Path) bool {
	return a.Origin == b.Origin && slices.Equal(a.As, b.As) && a.Hop == b.Hop && a.Otc == b.Otc
}

func sameNote(a, b api.Note) bool {
	return a.Code == b.Code && a.Sub == b.Sub && bytes.Equal(a.Data, b.Data)
}

func data(n int) []byte { return bytes.Repeat([]byte{7}, n) }

func ases(n, as int) []int { return slices.Repeat([]int{as}, n) }

// P7.1
func TestPut(t *testing.T) {
	for _, x := range []struct {
		name string
		a    api.Attr
		head []byte
		ok   bool
	}{
		{"origin", api.Attr{Flags: 64, Type: 1, Data: []byte{0}}, []byte{64, 1, 1}, true},
		{"no data", api.Attr{Flags: 0, Type: 0}, []byte{0, 0, 0}, true},
		{"255 octets", api.Attr{Flags: 64, Type: 2, Data: data(255)}, []byte{64, 2, 255}, true},
		{"255 octets, flag 16", api.Attr{Flags: 255, Type: 2, Data: data(255)}, []byte{239, 2, 255}, true},
		{"no data, flag 16", api.Attr{Flags: 16, Type: 2}, []byte{0, 2, 0}, true},
		{"256 octets", api.Attr{Flags: 64, Type: 2, Data: data(256)}, []byte{80, 2, 1, 0}, true},
		{"256 octets, flag 16", api.Attr{Flags: 80, Type: 2, Data: data(256)}, []byte{80, 2, 1, 0}, true},
		{"65535 octets", api.Attr{Flags: 192, Type: 255, Data: data(65535)}, []byte{208, 255, 255, 255}, true},
		{"65536 octets", api.Attr{Flags: 192, Type: 255, Data: data(65536)}, nil, false},
		{"flags 256", api.Attr{Flags: 256, Type: 1}, nil, false},
		{"flags -1", api.Attr{Flags: -1, Type: 1}, nil, false},
		{"type 256", api.Attr{Flags: 64, Type: 256}, nil, false},
		{"type -1", api.Attr{Flags: 64, Type: -1}, nil, false},
		{"type far off", api.Attr{Flags: 64, Type: math.MaxInt}, nil, false},
		{"flags far off", api.Attr{Flags: math.MinInt, Type: 1}, nil, false},
	} {
		want := []byte{9, 9}
		if x.ok {
			want = append(append(want, x.head...), x.a.Data...)
		}
		if got := attr.Put([]byte{9, 9}, x.a); !bytes.Equal(got, want) {
			t.Errorf("%s: %v", x.name, got[:min(len(got), 10)])
		}
	}
}

// P7.1
func TestGet(t *testing.T) {
	for _, x := range []struct {
		name string
		b    []byte
		a    api.Attr
		rest []byte
		ok   bool
	}{
		{"origin", []byte{64, 1, 1, 0}, api.Attr{Flags: 64, Type: 1, Data: []byte{0}}, nil, true},
		{"more behind", []byte{64, 1, 1, 2, 5, 6}, api.Attr{Flags: 64, Type: 1, Data: []byte{2}}, []byte{5, 6}, true},
		{"no data", []byte{255 - 16, 99, 0, 4}, api.Attr{Flags: 239, Type: 99}, []byte{4}, true},
		{"flag 16", []byte{80, 1, 0, 1, 2, 3}, api.Attr{Flags: 80, Type: 1, Data: []byte{2}}, []byte{3}, true},
		{"flag 16, no data", []byte{16, 1, 0, 0}, api.Attr{Flags: 16, Type: 1}, nil, true},
		{"flag 16, 256 octets", append([]byte{16, 1, 1, 0}, data(257)...), api.Attr{Flags: 16, Type: 1, Data: data(256)}, []byte{7}, true},
		{"nothing", nil, api.Attr{}, nil, false},
		{"flags alone", []byte{64}, api.Attr{}, nil, false},
		{"no size", []byte{64, 1}, api.Attr{}, nil, false},
		{"half a size", []byte{80, 1, 0}, api.Attr{}, nil, false},
		{"one octet missing", []byte{64, 1, 2, 0}, api.Attr{}, nil, false},
		{"one octet missing, flag 16", append([]byte{16, 1, 1, 0}, data(255)...), api.Attr{}, nil, false},
	} {
		a, rest, ok := attr.Get(x.b)
		if !same(a, x.a) || !bytes.Equal(rest, x.rest) || ok != x.ok {
			t.Errorf("%s: %v %v %v", x.name, a, rest, ok)
		}
	}
}

// P7.1
func TestAll(t *testing.T) {
	for _, x := range []struct {
		b    []byte
		list []api.Attr
		ok   bool
	}{
		{nil, nil, true},
		{[]byte{64, 1, 1, 0, 16, 2, 0, 0, 1, 1, 1, 1}, []api.Attr{{Flags: 64, Type: 1, Data: []byte{0}}, {Flags: 16, Type: 2}, {Flags: 1, Type: 1, Data: []byte{1}}}, true},
		{[]byte{64, 1, 1, 0, 64}, nil, false},
		{[]byte{64, 1, 1, 0, 64, 2, 1}, nil, false},
	} {
		list, ok := attr.All(x.b)
		if !slices.EqualFunc(list, x.list, same) || ok != x.ok {
			t.Errorf("All(%v) = %v %v", x.b, list, ok)
		}
	}
}

// good are attributes that say the path of goodPath.
func good() []api.Attr {
	return []api.Attr{
		{Flags: 64, Type: 1, Data: []byte{0}},
		{Flags: 64, Type: 2, Data: []byte{2, 2, 0, 0, 253, 233, 0, 0, 0, 7}},
		{Flags: 64, Type: 3, Data: []byte{10, 0, 0, 1}},
	}
}

func goodPath() api.Path { return api.Path{As: []int{65001, 7}, Hop: 0x0a000001} }

func judge(t *testing.T, name string, l []api.Attr, p api.Path, kind int, n api.Note) {
	t.Helper()
	gotP, gotKind, gotN := attr.Judge(l)
	if !samePath(gotP, p) || gotKind != kind || !sameNote(gotN, n) {
		t.Errorf("%s: %v %d %v, want %v %d %v", name, gotP, gotKind, gotN, p, kind, n)
	}
}

// P7.2: each type by itself, in place of the good one, or beside the good ones.
func TestJudgeOfEachType(t *testing.T) {
	plain := func(p *api.Path) {}
	for _, x := range []struct {
		name   string
		a      api.Attr
		kind   int
		change func(p *api.Path)
	}{
		{"origin 1", api.Attr{Flags: 64, Type: 1, Data: []byte{1}}, attr.Good, func(p *api.Path) { p.Origin = 1 }},
		{"origin 2", api.Attr{Flags: 64, Type: 1, Data: []byte{2}}, attr.Good, func(p *api.Path) { p.Origin = 2 }},
		{"origin, other flags", api.Attr{Flags: 64 | 63, Type: 1, Data: []byte{0}}, attr.Good, plain},
		{"origin, flags above", api.Attr{Flags: 64 + 256, Type: 1, Data: []byte{0}}, attr.Good, plain},
		{"origin 3", api.Attr{Flags: 64, Type: 1, Data: []byte{3}}, attr.Spoilt, plain},
		{"origin 255", api.Attr{Flags: 64, Type: 1, Data: []byte{255}}, attr.Spoilt, plain},
		{"origin of no octet", api.Attr{Flags: 64, Type: 1}, attr.Spoilt, plain},
		{"origin of two octets", api.Attr{Flags: 64, Type: 1, Data: []byte{0, 0}}, attr.Spoilt, plain},
		{"origin, flags 0", api.Attr{Flags: 0, Type: 1, Data: []byte{0}}, attr.Spoilt, plain},
		{"origin, flags 128", api.Attr{Flags: 128, Type: 1, Data: []byte{0}}, attr.Spoilt, plain},
		{"origin, flags 192", api.Attr{Flags: 192, Type: 1, Data: []byte{0}}, attr.Spoilt, plain},
		{"no AS", api.Attr{Flags: 64, Type: 2}, attr.Good, func(p *api.Path) { p.As = nil }},
		{"one AS", api.Attr{Flags: 80, Type: 2, Data: []byte{2, 1, 255, 255, 255, 255}}, attr.Good, func(p *api.Path) { p.As = []int{1<<32 - 1} }},
		{"two segments", api.Attr{Flags: 64, Type: 2, Data: []byte{2, 1, 0, 0, 0, 9, 2, 2, 0, 0, 0, 8, 0, 0, 0, 9}}, attr.Good, func(p *api.Path) { p.As = []int{9, 8, 9} }},
		{"255 ASes", api.Attr{Flags: 64, Type: 2, Data: append([]byte{2, 255}, bytes.Repeat([]byte{0, 0, 0, 5}, 255)...)}, attr.Good, func(p *api.Path) { p.As = ases(255, 5) }},
		{"256 ASes", api.Attr{Flags: 64, Type: 2, Data: append(append([]byte{2, 255}, bytes.Repeat([]byte{0, 0, 0, 5}, 255)...), 2, 1, 0, 0, 0, 5)}, attr.Good, func(p *api.Path) { p.As = ases(256, 5) }},
		{"ASes, flags 0", api.Attr{Flags: 0, Type: 2, Data: good()[1].Data}, attr.Spoilt, plain},
		{"ASes, flags 192", api.Attr{Flags: 192, Type: 2, Data: good()[1].Data}, attr.Spoilt, plain},
		{"a segment of kind 1", api.Attr{Flags: 64, Type: 2, Data: []byte{1, 1, 0, 0, 0, 9}}, attr.Spoilt, plain},
		{"a segment of kind 3", api.Attr{Flags: 64, Type: 2, Data: []byte{3, 1, 0, 0, 0, 9}}, attr.Spoilt, plain},
		{"a second segment of kind 1", api.Attr{Flags: 64, Type: 2, Data: []byte{2, 1, 0, 0, 0, 9, 1, 1, 0, 0, 0, 9}}, attr.Spoilt, plain},
		{"a segment of no AS", api.Attr{Flags: 64, Type: 2, Data: []byte{2, 0}}, attr.Spoilt, plain},
		{"a segment of no AS behind one", api.Attr{Flags: 64, Type: 2, Data: []byte{2, 1, 0, 0, 0, 9, 2, 0}}, attr.Spoilt, plain},
		{"half a segment's head", api.Attr{Flags: 64, Type: 2, Data: []byte{2}}, attr.Spoilt, plain},
		{"half an AS", api.Attr{Flags: 64, Type: 2, Data: []byte{2, 1, 0, 0, 9}}, attr.Spoilt, plain},
		{"half a second AS", api.Attr{Flags: 64, Type: 2, Data: []byte{2, 2, 0, 0, 0, 9, 0, 0, 0}}, attr.Spoilt, plain},
		{"no second AS", api.Attr{Flags: 64, Type: 2, Data: []byte{2, 2, 0, 0, 0, 9}}, attr.Spoilt, plain},
		{"octets behind segments", api.Attr{Flags: 64, Type: 2, Data: []byte{2, 1, 0, 0, 0, 9, 2}}, attr.Spoilt, plain},
		{"AS 0", api.Attr{Flags: 64, Type: 2, Data: []byte{2, 2, 0, 0, 0, 9, 0, 0, 0, 0}}, attr.Spoilt, plain},
		{"another next hop", api.Attr{Flags: 64, Type: 3, Data: []byte{255, 255, 255, 255}}, attr.Good, func(p *api.Path) { p.Hop = 1<<32 - 1 }},
		{"next hop 0", api.Attr{Flags: 64, Type: 3, Data: []byte{0, 0, 0, 0}}, attr.Spoilt, plain},
		{"next hop of three octets", api.Attr{Flags: 64, Type: 3, Data: []byte{10, 0, 1}}, attr.Spoilt, plain},
		{"next hop of five octets", api.Attr{Flags: 64, Type: 3, Data: []byte{10, 0, 0, 1, 0}}, attr.Spoilt, plain},
		{"next hop of no octet", api.Attr{Flags: 64, Type: 3}, attr.Spoilt, plain},
		{"next hop, flags 128", api.Attr{Flags: 128, Type: 3, Data: []byte{10, 0, 0, 1}}, attr.Spoilt, plain},
		{"type 4", api.Attr{Flags: 128, Type: 4, Data: []byte{1, 2, 3, 4}}, attr.Good, plain},
		{"type 4, number 0", api.Attr{Flags: 128 | 63, Type: 4, Data: []byte{0, 0, 0, 0}}, attr.Good, plain},
		{"type 4, flags 64", api.Attr{Flags: 64, Type: 4, Data: []byte{1, 2, 3, 4}}, attr.Spoilt, plain},
		{"type 4, flags 192", api.Attr{Flags: 192, Type: 4, Data: []byte{1, 2, 3, 4}}, attr.Spoilt, plain},
		{"type 4, flags 0", api.Attr{Flags: 0, Type: 4, Data: []byte{1, 2, 3, 4}}, attr.Spoilt, plain},
		{"type 4 of three octets", api.Attr{Flags: 128, Type: 4, Data: []byte{1, 2, 3}}, attr.Spoilt, plain},
		{"type 4 of five octets", api.Attr{Flags: 128, Type: 4, Data: []byte{1, 2, 3, 4, 5}}, attr.Spoilt, plain},
		{"Otc", api.Attr{Flags: 192, Type: 35, Data: []byte{0, 0, 0, 7}}, attr.Good, func(p *api.Path) { p.Otc = 7 }},
		{"Otc, other flags", api.Attr{Flags: 255, Type: 35, Data: []byte{255, 255, 255, 255}}, attr.Good, func(p *api.Path) { p.Otc = 1<<32 - 1 }},
		{"Otc 0", api.Attr{Flags: 192, Type: 35, Data: []byte{0, 0, 0, 0}}, attr.Spoilt, plain},
		{"Otc of three octets", api.Attr{Flags: 192, Type: 35, Data: []byte{0, 0, 7}}, attr.Spoilt, plain},
		{"Otc of five octets", api.Attr{Flags: 192, Type: 35, Data: []byte{0, 0, 0, 7, 0}}, attr.Spoilt, plain},
		{"Otc, flags 64", api.Attr{Flags: 64, Type: 35, Data: []byte{0, 0, 0, 7}}, attr.Spoilt, plain},
		{"Otc, flags 128", api.Attr{Flags: 128, Type: 35, Data: []byte{0, 0, 0, 7}}, attr.Spoilt, plain},
		{"Otc, flags 0", api.Attr{Flags: 0, Type: 35, Data: []byte{0, 0, 0, 7}}, attr.Spoilt, plain},
		{"type 5", api.Attr{Flags: 0, Type: 5, Data: data(3)}, attr.Good, plain},
		{"type 6", api.Attr{Flags: 64, Type: 6}, attr.Good, plain},
		{"type 7", api.Attr{Flags: 64, Type: 7, Data: data(300)}, attr.Good, plain},
		{"type 7, flags 192", api.Attr{Flags: 192, Type: 7, Data: data(300)}, attr.Good, plain},
		{"type 8, flags 128", api.Attr{Flags: 128, Type: 8, Data: data(4)}, attr.Good, plain},
		{"type 0, flags 128", api.Attr{Flags: 128, Type: 0}, attr.Good, plain},
		{"type 255, flags 192", api.Attr{Flags: 192, Type: 255, Data: data(4)}, attr.Good, plain},
		{"type -1, flags 128", api.Attr{Flags: 128, Type: -1}, attr.Good, plain},
	} {
		want := api.Path{}
		if x.kind == attr.Good {
			want = goodPath()
			x.change(&want)
		}
		l := slices.DeleteFunc(good(), func(a api.Attr) bool { return a.Type == x.a.Type })
		judge(t, x.name, append(slices.Clone(l), x.a), want, x.kind, api.Note{})
		judge(t, x.name+", first", append([]api.Attr{x.a}, l...), want, x.kind, api.Note{})
	}
}

// P7.2
func TestJudgeOfFatalOnes(t *testing.T) {
	fatal := func(b ...byte) api.Note { return api.Note{Code: 3, Sub: 2, Data: b} }
	spoilt := api.Attr{Flags: 64, Type: 1, Data: []byte{9}}
	for _, x := range []struct {
		name string
		l    []api.Attr
		n    api.Note
	}{
		{"type 8", append(good(), api.Attr{Flags: 64, Type: 8, Data: []byte{1, 2}}), fatal(64, 8, 2, 1, 2)},
		{"type 8, flags 0", append(good(), api.Attr{Flags: 0, Type: 8}), fatal(0, 8, 0)},
		{"type 0", append(good(), api.Attr{Flags: 64, Type: 0}), fatal(64, 0, 0)},
		{"type 34, flag 16", append(good(), api.Attr{Flags: 127, Type: 34, Data: []byte{5}}), fatal(111, 34, 1, 5)},
		{"type 36", append(good(), api.Attr{Flags: 64, Type: 36}), fatal(64, 36, 0)},
		{"type 255", append(good(), api.Attr{Flags: 64, Type: 255}), fatal(64, 255, 0)},
		{"alone", []api.Attr{{Flags: 64, Type: 9}}, fatal(64, 9, 0)},
		{"the first of two", []api.Attr{{Flags: 64, Type: 77}, {Flags: 64, Type: 9}}, fatal(64, 77, 0)},
		{"behind one that is spoilt", []api.Attr{spoilt, {Flags: 64, Type: 9}}, fatal(64, 9, 0)},
		{"ahead of one that is spoilt", []api.Attr{{Flags: 64, Type: 9}, spoilt}, fatal(64, 9, 0)},
		{"behind one that is passed over", []api.Attr{{Flags: 128, Type: 10}, {Flags: 64, Type: 9}}, fatal(64, 9, 0)},
		{"long", []api.Attr{{Flags: 64, Type: 9, Data: data(256)}}, fatal(append([]byte{80, 9, 1, 0}, data(256)...)...)},
		{"a type that there is not", []api.Attr{{Flags: 64, Type: 256, Data: data(5)}}, fatal()},
		{"a type below 0", []api.Attr{{Flags: 64, Type: -1, Data: data(5)}}, fatal()},
		{"too long", []api.Attr{{Flags: 64, Type: 9, Data: data(65536)}}, fatal()},
	} {
		judge(t, x.name, x.l, api.Path{}, attr.Fatal, x.n)
	}
}

// P7.2: of some with one type the first one alone counts.
func TestJudgeOfSeveralOfOneType(t *testing.T) {
	more := func(a ...api.Attr) []api.Attr { return append(good(), a...) }
	for _, x := range []struct {
		name string
		l    []api.Attr
		p    api.Path
		kind int
	}{
		{"a second origin", more(api.Attr{Flags: 64, Type: 1, Data: []byte{2}}), goodPath(), attr.Good},
		{"a second origin that is spoilt", more(api.Attr{Flags: 0, Type: 1}), goodPath(), attr.Good},
		{"a second list of ASes", more(api.Attr{Flags: 64, Type: 2}), goodPath(), attr.Good},
		{"a second next hop", more(api.Attr{Flags: 64, Type: 3, Data: []byte{1, 1, 1, 1}}), goodPath(), attr.Good},
		{"a second Otc that is spoilt", more(api.Attr{Flags: 192, Type: 35, Data: []byte{0, 0, 0, 9}}, api.Attr{Flags: 192, Type: 35}), api.Path{As: []int{65001, 7}, Hop: 0x0a000001, Otc: 9}, attr.Good},
		{"a second one that would be fatal", more(api.Attr{Flags: 128, Type: 9}, api.Attr{Flags: 64, Type: 9}), goodPath(), attr.Good},
		{"a first origin that is spoilt", append([]api.Attr{{Flags: 64, Type: 1, Data: []byte{3}}}, good()...), api.Path{}, attr.Spoilt},
		{"a first type 4 that is spoilt", more(api.Attr{Flags: 128, Type: 4}, api.Attr{Flags: 128, Type: 4, Data: data(4)}), api.Path{}, attr.Spoilt},
	} {
		judge(t, x.name, x.l, x.p, x.kind, api.Note{})
	}
}

// P7.2
func TestJudgeOfMissingOnes(t *testing.T) {
	judge(t, "all", good(), goodPath(), attr.Good, api.Note{})
	judge(t, "none", nil, api.Path{}, attr.Spoilt, api.Note{})
	for at := range good() {
		judge(t, "one missing", slices.Delete(good(), at, at+1), api.Path{}, attr.Spoilt, api.Note{})
	}
	l := good()
	slices.Reverse(l)
	judge(t, "the other way round", l, goodPath(), attr.Good, api.Note{})
}

// P7.2: the numbers of what attributes are together.
func TestKinds(t *testing.T) {
	if attr.Good != 0 || attr.Spoilt != 1 || attr.Fatal != 2 {
		t.Error(attr.Good, attr.Spoilt, attr.Fatal)
	}
}

// P7.3
func TestSane(t *testing.T) {
	for _, x := range []struct {
		name string
		p    api.Path
		out  bool
	}{
		{"good", goodPath(), true},
		{"least", api.Path{Hop: 1}, true},
		{"greatest", api.Path{Origin: 2, As: ases(255, 1<<32-1), Hop: 1<<32 - 1, Otc: 1<<32 - 1}, true},
		{"origin 3", api.Path{Origin: 3, Hop: 1}, false},
		{"origin -1", api.Path{Origin: -1, Hop: 1}, false},
		{"greatest AS", api.Path{As: []int{1<<32 - 1}, Hop: 1}, true},
		{"256 ASes", api.Path{As: ases(256, 1), Hop: 1}, false},
		{"AS 0", api.Path{As: []int{1, 0}, Hop: 1}, false},
		{"AS -1", api.Path{As: []int{-1, 1}, Hop: 1}, false},
		{"AS too great", api.Path{As: []int{1 << 32}, Hop: 1}, false},
		{"hop 0", api.Path{}, false},
		{"hop -1", api.Path{Hop: -1}, false},
		{"hop too great", api.Path{Hop: 1 << 32}, false},
		{"Otc -1", api.Path{Hop: 1, Otc: -1}, false},
		{"Otc too great", api.Path{Hop: 1, Otc: 1 << 32}, false},
		{"far off", api.Path{Origin: math.MinInt, As: []int{math.MaxInt}, Hop: math.MinInt, Otc: math.MaxInt}, false},
	} {
		if got := attr.Sane(x.p); got != x.out {
			t.Errorf("%s: Sane = %v", x.name, got)
		}
		if got := attr.Of(x.p); !x.out && len(got) != 0 {
			t.Errorf("%s: Of = %v", x.name, got)
		}
	}
}

// P7.3
func TestOf(t *testing.T) {
	for _, x := range []struct {
		p    api.Path
		list []api.Attr
	}{
		{goodPath(), good()},
		{api.Path{Origin: 2, Hop: 1}, []api.Attr{{Flags: 64, Type: 1, Data: []byte{2}}, {Flags: 64, Type: 2}, {Flags: 64, Type: 3, Data: []byte{0, 0, 0, 1}}}},
		{api.Path{Origin: 1, As: []int{1 << 24}, Hop: 256, Otc: 65536}, []api.Attr{{Flags: 64, Type: 1, Data: []byte{1}}, {Flags: 64, Type: 2, Data: []byte{2, 1, 1, 0, 0, 0}}, {Flags: 64, Type: 3, Data: []byte{0, 0, 1, 0}}, {Flags: 192, Type: 35, Data: []byte{0, 1, 0, 0}}}},
		{api.Path{As: ases(255, 3), Hop: 9}, []api.Attr{{Flags: 64, Type: 1, Data: []byte{0}}, {Flags: 64, Type: 2, Data: append([]byte{2, 255}, bytes.Repeat([]byte{0, 0, 0, 3}, 255)...)}, {Flags: 64, Type: 3, Data: []byte{0, 0, 0, 9}}}},
	} {
		if got := attr.Of(x.p); !slices.EqualFunc(got, x.list, same) {
			t.Errorf("Of(%v) = %v, want %v", x.p, got, x.list)
		}
	}
}

// P7.4: what is put is got, but for flag 16.
func TestWhatIsPutIsGot(t *testing.T) {
	var b []byte
	var want []api.Attr
	for _, flags := range []int{0, 16, 64, 80, 128, 192, 239, 255} {
		for _, kind := range []int{0, 1, 35, 255} {
			for _, size := range []int{0, 1, 255, 256, 300, 65535} {
				a := api.Attr{Flags: flags, Type: kind, Data: data(size)}
				b = attr.Put(b, a)
				a.Flags &^= 16
				if size > 255 {
					a.Flags |= 16
				}
				want = append(want, a)
			}
		}
	}
	if got, ok := attr.All(b); !ok || !slices.EqualFunc(got, want, same) {
		t.Errorf("what is put is not got: %v", ok)
	}
}

// P7.4: what a path's attributes say is the path. R3: it is not changed.
func TestWhatIsSaidIsThePath(t *testing.T) {
	for _, n := range []int{0, 1, 2, 31, 32, 33, 63, 64, 254, 255} {
		for _, otc := range []int{0, 1, 70000, 1<<32 - 1} {
			for origin := range 3 {
				p := api.Path{Origin: origin, As: ases(n, 4200000000), Hop: 0x0a000001 + n, Otc: otc}
				if n > 1 {
					p.As[1] = 1
				}
				old := slices.Clone(p.As)
				l := attr.Of(p)
				judge(t, "of a path", l, p, attr.Good, api.Note{})
				var b []byte
				for _, a := range l {
					b = attr.Put(b, a)
				}
				all, ok := attr.All(b)
				if !ok {
					t.Fatalf("%v cannot be read", b)
				}
				judge(t, "of a path as octets", all, p, attr.Good, api.Note{})
				if !slices.Equal(p.As, old) {
					t.Fatalf("changed to %v", p.As)
				}
			}
		}
	}
}
