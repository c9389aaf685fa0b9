package role_test

import (
	"math"
	"testing"

	"ridgeway/role"
)

// others are numbers that are no Rel.
func others() []int { return []int{0, 4, -1, 5, 100, math.MaxInt, math.MinInt} }

// P13.1
func TestMine(t *testing.T) {
	for rel, want := range map[int]int{1: 0, 2: 4, 3: 3} {
		if got := role.Mine(rel); got != want {
			t.Errorf("Mine(%d) = %d, want %d", rel, got, want)
		}
	}
	for _, rel := range others() {
		if got := role.Mine(rel); got != -1 {
			t.Errorf("Mine(%d) = %d", rel, got)
		}
	}
}

// P13.1
func TestPairs(t *testing.T) {
	pairs := map[[2]int]bool{{0, 3}: true, {1, 2}: true, {3, 0}: true, {2, 1}: true, {4, 4}: true}
	for a := -5; a < 12; a++ {
		for b := -5; b < 12; b++ {
			if got := role.Pairs(a, b); got != pairs[[2]int{a, b}] {
				t.Errorf("Pairs(%d, %d) = %v", a, b, got)
			}
		}
	}
	for _, a := range []int{255, 256, 260, math.MaxInt, math.MinInt} {
		if role.Pairs(a, a) || role.Pairs(a, 4) || role.Pairs(4, a) {
			t.Errorf("%d goes together", a)
		}
	}
}

// P13.2
func TestIn(t *testing.T) {
	for _, x := range []struct {
		rel, as, otc, mark int
		ok                 bool
	}{
		{1, 7, 0, 0, true},
		{1, 7, 7, 0, false},
		{1, 7, 9, 0, false},
		{1, 7, -1, 0, false},
		{2, 7, 0, 7, true},
		{2, 7, 7, 7, true},
		{2, 7, 9, 0, false},
		{2, 7, 1<<32 - 1, 0, false},
		{2, 7, -7, 0, false},
		{3, 7, 0, 7, true},
		{3, 7, 7, 7, true},
		{3, 7, 9, 9, true},
		{3, 1<<32 - 1, 5, 5, true},
	} {
		if mark, ok := role.In(x.rel, x.as, x.otc); mark != x.mark || ok != x.ok {
			t.Errorf("In(%d, %d, %d) = %d %v", x.rel, x.as, x.otc, mark, ok)
		}
	}
	for _, rel := range others() {
		for _, otc := range []int{0, 7, 9} {
			if mark, ok := role.In(rel, 7, otc); mark != 0 || ok {
				t.Errorf("In(%d, 7, %d) = %d %v", rel, otc, mark, ok)
			}
		}
	}
}

// P13.3
func TestOut(t *testing.T) {
	for _, x := range []struct {
		rel, own, otc, mark int
		ok                  bool
	}{
		{1, 7, 0, 7, true},
		{1, 7, 7, 7, true},
		{1, 7, 9, 9, true},
		{2, 7, 0, 7, true},
		{2, 7, 7, 0, false},
		{2, 7, 9, 0, false},
		{2, 7, -9, 0, false},
		{3, 7, 0, 0, true},
		{3, 7, 7, 0, false},
		{3, 7, 9, 0, false},
		{3, 7, -9, 0, false},
	} {
		if mark, ok := role.Out(x.rel, x.own, x.otc); mark != x.mark || ok != x.ok {
			t.Errorf("Out(%d, %d, %d) = %d %v", x.rel, x.own, x.otc, mark, ok)
		}
	}
	for _, rel := range others() {
		for _, otc := range []int{0, 7, 9} {
			if mark, ok := role.Out(rel, 7, otc); mark != 0 || ok {
				t.Errorf("Out(%d, 7, %d) = %d %v", rel, otc, mark, ok)
			}
		}
	}
}

// P13.4: whatever the mark with which it came.
func TestWhatCameFromAPeerOrProviderGoesToCustomersAlone(t *testing.T) {
	for _, from := range []int{1, 2, 3} {
		for _, otc := range []int{0, 7, 9, 1<<32 - 1} {
			mark, ok := role.In(from, 7, otc)
			if !ok {
				continue
			}
			for _, to := range []int{1, 2, 3} {
				if _, told := role.Out(to, 8, mark); told != (from == 1 || to == 1) {
					t.Errorf("from %d with %d to %d: %v", from, otc, to, told)
				}
			}
		}
	}
}

// P13.4: on whatever way, a route that went to a peer or a customer does not go up or across any more.
func TestWaysOfSeveralSteps(t *testing.T) {
	for _, ways := range [][]int{{1}, {2}, {1, 1}, {2, 1}, {3, 1}, {3, 2}, {3, 3, 2, 1}} { // what each is to the one ahead
		mark, as := 0, 100
		for _, rel := range ways {
			told, ok := role.Out(rel, as, mark)
			if !ok {
				t.Fatalf("%v does not go", ways)
			}
			if mark, ok = role.In(4-rel, as, told); !ok {
				t.Fatalf("%v does not come", ways)
			}
			as++
		}
		for rel := 1; rel <= 3; rel++ {
			if _, ok := role.Out(rel, as, mark); ok != (rel == 1) {
				t.Errorf("behind %v to %d: %v", ways, rel, ok)
			}
		}
	}
}
