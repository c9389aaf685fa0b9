package ribin_test

import (
	"math"
	"math/rand"
	"slices"
	"testing"

	"ridgeway/api"
	"ridgeway/ribin"
)

func p(a, b, c, d, n int) api.Prefix {
	return api.Prefix{A: a<<24 | b<<16 | c<<8 | d, N: n}
}

// of is an entry of the prefix a.0.0.0/n, with the hop as its path.
func of(a, n, hop int) api.Entry {
	return api.Entry{X: p(a, 0, 0, 0, n), P: api.Path{As: []int{7, 8}, Hop: hop}}
}

func same(a, b []api.Entry) bool {
	return slices.EqualFunc(a, b, func(a, b api.Entry) bool { return a.X == b.X && samePath(a.P, b.P) })
}

func samePath(a, b api.Path) bool {
	return a.Origin == b.Origin && slices.Equal(a.As, b.As) && a.Hop == b.Hop && a.Otc == b.Otc
}

type table = []api.Entry

func some() table { return table{of(9, 8, 1), of(10, 8, 2), of(10, 9, 3), of(200, 8, 4)} }

// none are lists that are no tables.
func none() []table {
	return []table{
		{of(10, 8, 1), of(9, 8, 1)},
		{of(10, 8, 1), of(10, 8, 1)},
		{of(10, 8, 1), of(10, 8, 2)},
		{of(10, 9, 1), of(10, 8, 1)},
		{of(1, 8, 1), of(2, 8, 1), of(3, 8, 1), of(3, 8, 1)},
		{of(10, 4, 1)},
		{of(9, 8, 1), of(10, 33, 1)},
		{of(9, 8, 1), {X: api.Prefix{A: 1 << 32, N: 32}, P: api.Path{Hop: 1}}},
		{of(9, 8, 1), of(10, 8, 0)},
		{of(10, 8, -1), of(11, 8, 1)},
		{{X: p(10, 0, 0, 0, 8), P: api.Path{As: []int{0}, Hop: 1}}},
		{{X: p(10, 0, 0, 0, 8), P: api.Path{As: slices.Repeat([]int{1}, 256), Hop: 1}}},
		{{}},
	}
}

// P18.1
func TestSane(t *testing.T) {
	for _, l := range []table{nil, {}, {of(10, 8, 1)}, some(), {{X: api.Prefix{}, P: api.Path{Hop: 1}}}, {{X: p(10, 0, 0, 0, 8), P: api.Path{As: slices.Repeat([]int{1}, 255), Hop: 1}}}} {
		if !ribin.Sane(l) {
			t.Errorf("%v is a table", l)
		}
	}
	for _, l := range none() {
		if ribin.Sane(l) {
			t.Errorf("%v is no table", l)
		}
	}
}

// P18.1
func TestGet(t *testing.T) {
	for _, e := range some() {
		if got, ok := ribin.Get(some(), e.X); !samePath(got, e.P) || !ok {
			t.Errorf("Get of %v = %v %v", e.X, got, ok)
		}
	}
	for _, x := range []api.Prefix{{}, p(8, 0, 0, 0, 8), p(9, 0, 0, 0, 9), p(10, 0, 0, 0, 7), p(10, 0, 0, 0, 10), p(201, 0, 0, 0, 8), {A: -1, N: -1}, {A: math.MaxInt, N: math.MaxInt}} {
		if got, ok := ribin.Get(some(), x); !samePath(got, api.Path{}) || ok {
			t.Errorf("Get of %v = %v %v", x, got, ok)
		}
	}
	for _, l := range append(none(), nil) {
		for _, x := range []api.Prefix{{}, p(10, 0, 0, 0, 8), p(9, 0, 0, 0, 8), p(1, 0, 0, 0, 8)} {
			if got, ok := ribin.Get(l, x); !samePath(got, api.Path{}) || ok {
				t.Errorf("Get out of %v = %v %v", l, got, ok)
			}
		}
	}
}

// P18.1
func TestSame(t *testing.T) {
	for _, l := range append(none(), nil, some()) {
		if !ribin.Same(l, slices.Clone(l)) {
			t.Errorf("%v is the same as itself", l)
		}
	}
	if !ribin.Same(nil, table{}) {
		t.Error("a list without elements may be nil or not")
	}
	for _, change := range []func(l table) table{
		func(l table) table { return l[1:] },
		func(l table) table { return l[:3] },
		func(l table) table { return nil },
		func(l table) table { return append(l, of(201, 8, 1)) },
		func(l table) table { l[0], l[1] = l[1], l[0]; return l },
		func(l table) table { l[3].X.A++; return l },
		func(l table) table { l[3].X.N++; return l },
		func(l table) table { l[2].P.Origin++; return l },
		func(l table) table { l[2].P.Hop++; return l },
		func(l table) table { l[2].P.Otc++; return l },
		func(l table) table { l[2].P.As = []int{7}; return l },
		func(l table) table { l[2].P.As = []int{7, 9}; return l },
		func(l table) table { l[0].P.As = nil; return l },
	} {
		if l := change(some()); ribin.Same(l, some()) || ribin.Same(some(), l) {
			t.Errorf("%v is not the same", l)
		}
	}
}

// P18.2
func TestApply(t *testing.T) {
	q := api.Path{Origin: 2, As: []int{5}, Hop: 9, Otc: 4}
	at := func(a, n int) api.Entry { return api.Entry{X: p(a, 0, 0, 0, n), P: q} }
	xs := func(l ...api.Prefix) []api.Prefix { return l }
	ten := p(10, 0, 0, 0, 8)
	for _, x := range []struct {
		name string
		t    table
		n    api.News
		most int
		out  table
		ok   bool
	}{
		{"nothing", nil, api.News{}, 0, nil, true},
		{"no news", some(), api.News{}, 4, some(), true},
		{"no news, but too many", some(), api.News{}, 3, nil, false},
		{"one gone", some(), api.News{Gone: xs(ten)}, 3, table{of(9, 8, 1), of(10, 9, 3), of(200, 8, 4)}, true},
		{"all gone, some not there", some(), api.News{Gone: xs(p(200, 0, 0, 0, 8), ten, ten, p(9, 0, 0, 0, 8), p(10, 0, 0, 0, 9), p(77, 0, 0, 0, 8))}, 0, nil, true},
		{"one more", some(), api.News{P: q, Nlri: xs(p(100, 0, 0, 0, 8))}, 5, table{of(9, 8, 1), of(10, 8, 2), of(10, 9, 3), at(100, 8), of(200, 8, 4)}, true},
		{"one more, too many", some(), api.News{P: q, Nlri: xs(p(100, 0, 0, 0, 8))}, 4, nil, false},
		{"in the place of another one's", some(), api.News{P: q, Nlri: xs(ten)}, 4, table{of(9, 8, 1), at(10, 8), of(10, 9, 3), of(200, 8, 4)}, true},
		{"the same prefix twice", nil, api.News{P: q, Nlri: xs(ten, ten)}, 1, table{at(10, 8)}, true},
		{"gone, and back", some(), api.News{Gone: xs(ten), P: q, Nlri: xs(ten)}, 4, table{of(9, 8, 1), at(10, 8), of(10, 9, 3), of(200, 8, 4)}, true},
		{"some for others", some(), api.News{Gone: xs(ten, p(9, 0, 0, 0, 8)), P: q, Nlri: xs(p(201, 0, 0, 0, 8), p(8, 0, 0, 0, 8))}, 4, table{at(8, 8), of(10, 9, 3), of(200, 8, 4), at(201, 8)}, true},
		{"ahead of all", some()[1:], api.News{P: q, Nlri: xs(api.Prefix{})}, 10, append(table{at(0, 0)}, some()[1:]...), true},
		{"no prefixes", some(), api.News{Gone: xs(p(10, 0, 0, 1, 8)), P: q, Nlri: xs(p(10, 0, 0, 0, 4), api.Prefix{N: 40}, p(100, 0, 0, 0, 8), api.Prefix{A: -1})}, 5, table{of(9, 8, 1), of(10, 8, 2), of(10, 9, 3), at(100, 8), of(200, 8, 4)}, true},
		{"a path that may not be", some(), api.News{Gone: xs(ten), P: api.Path{}, Nlri: xs(p(9, 0, 0, 0, 8), p(100, 0, 0, 0, 8))}, 4, table{of(9, 8, 1), of(10, 9, 3), of(200, 8, 4)}, true},
		{"a path of too many ASes", nil, api.News{P: api.Path{As: slices.Repeat([]int{1}, 256), Hop: 1}, Nlri: xs(ten)}, 4, nil, true},
		{"a path of nothing", some(), api.News{P: q}, 4, some(), true},
		{"most below 0", nil, api.News{}, -1, nil, false},
		{"most far below 0", some(), api.News{}, math.MinInt, nil, false},
		{"most far above", some(), api.News{}, math.MaxInt, some(), true},
	} {
		old := slices.Clone(x.t)
		got, ok := ribin.Apply(x.t, x.n, x.most)
		if !same(got, x.out) || ok != x.ok {
			t.Errorf("%s: %v %v, want %v", x.name, got, ok, x.out)
		}
		if !same(x.t, old) {
			t.Errorf("%s: changed to %v", x.name, x.t)
		}
	}
	for _, l := range none() {
		if got, ok := ribin.Apply(l, api.News{P: q, Nlri: xs(ten)}, 1); !same(got, table{at(10, 8)}) || !ok {
			t.Errorf("Apply to %v = %v %v", l, got, ok)
		}
	}
}

// P18.3
func TestDiff(t *testing.T) {
	other := some()
	other[1] = of(10, 8, 77)
	longer := some()
	longer[3].P.As = []int{7, 8, 9}
	for _, x := range []struct {
		name string
		a, b table
		gone []api.Prefix
		list table
	}{
		{"nothing", nil, nil, nil, nil},
		{"the same", some(), some(), nil, nil},
		{"all gone", some(), nil, []api.Prefix{p(9, 0, 0, 0, 8), p(10, 0, 0, 0, 8), p(10, 0, 0, 0, 9), p(200, 0, 0, 0, 8)}, nil},
		{"all anew", nil, some(), nil, some()},
		{"another path", some(), other, nil, table{of(10, 8, 77)}},
		{"more ASes", some(), longer, nil, longer[3:]},
		{"some of each", table{of(9, 8, 1), of(10, 8, 2), of(11, 8, 3)}, table{of(8, 8, 1), of(9, 8, 2), of(11, 8, 3), of(12, 8, 5)}, []api.Prefix{p(10, 0, 0, 0, 8)}, table{of(8, 8, 1), of(9, 8, 2), of(12, 8, 5)}},
	} {
		if gone, list := ribin.Diff(x.a, x.b); !slices.Equal(gone, x.gone) || !same(list, x.list) {
			t.Errorf("%s: %v %v", x.name, gone, list)
		}
	}
	for _, l := range none() {
		if gone, list := ribin.Diff(l, some()); len(gone) != 0 || !same(list, some()) {
			t.Errorf("from %v: %v %v", l, gone, list)
		}
		if gone, list := ribin.Diff(some(), l); len(gone) != 4 || len(list) != 0 {
			t.Errorf("to %v: %v %v", l, gone, list)
		}
	}
}

// P18.4: what is unlike, applied, leads from one table to the other; of tables at random.
func TestWhatIsUnlikeLeadsToTheOther(t *testing.T) {
	r := rand.New(rand.NewSource(3))
	random := func() table {
		var l table
		for i := range 12 {
			if r.Intn(2) == 0 {
				l = append(l, of(i/2, 8+i%2, 1+r.Intn(3)))
			}
		}
		return l
	}
	for range 2000 {
		a, b := random(), random()
		if !ribin.Sane(a) || !ribin.Sane(b) {
			t.Fatal("no tables")
		}
		oldA, oldB := slices.Clone(a), slices.Clone(b)
		gone, list := ribin.Diff(a, b)
		got, ok := ribin.Apply(a, api.News{Gone: gone}, 100)
		for _, e := range list {
			next, also := ribin.Apply(got, api.News{P: e.P, Nlri: []api.Prefix{e.X}}, 100)
			got, ok = next, ok && also
			if !ribin.Sane(got) {
				t.Fatalf("%v is no table", got)
			}
		}
		if !ok || !same(got, b) || !ribin.Same(got, b) {
			t.Fatalf("from %v to %v: %v", a, b, got)
		}
		if (len(gone)+len(list) == 0) != same(a, b) {
			t.Fatalf("from %v to %v: %v %v", a, b, gone, list)
		}
		if !same(a, oldA) || !same(b, oldB) {
			t.Fatal("what is handed in is changed")
		}
	}
}
