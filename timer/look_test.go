package timer_test

import (
	"math"
	"slices"
	"testing"

	"drayman/api"
	"drayman/timer"
)

// messy are lists that are not fit and have a Saga and Kind more than once, in
// any order, or timers that are not valid.
func messy() [][]api.Timer {
	return [][]api.Timer{
		{tm(9, 3, 1), tm(2, 3, 2), tm(7, 1, 1), tm(2, 3, 1), tm(9, 3, 1), tm(1, 3, 2), tm(0, 1, 4)},
		{tm(5, 0, 0), tm(4, 0, 5), tm(-3, -1, -1), tm(6, 0, 0), tm(math.MinInt, math.MaxInt, math.MinInt), tm(math.MaxInt, math.MaxInt, math.MinInt), tm(8, 0, 5)},
		{tm(5, 3, 0), tm(4, 3, 1), tm(3, 3, 0), tm(2, 3, 5), tm(1, 4, 0), tm(0, 4, 1)},
		{tm(5, 3, 1), tm(5, 3, 1), tm(5, 3, 1)},
		{{}, {}, tm(0, 0, 1), tm(0, 1, 0)},
		{tm(5, 1<<32+1, 1), tm(6, 1, 1<<32+1), tm(7, 1, 1), tm(8, 1, 257)},
		slices.Repeat(some(70), 30),
		slices.Repeat([]api.Timer{tm(7, 1, 1), tm(6, 2, 2)}, 40),
	}
}

// askedFor are Sagas and Kinds to ask a list for: those of its timers, those
// beside them, and those at the edges.
func askedFor(l []api.Timer) ([]int, []int) {
	sagas, kinds := []int{-1, 0, 1, 2, 3, 4, most, most + 1, math.MinInt, math.MaxInt, 1<<32 + 1}, []int{-1, 0, 1, 2, 3, 4, 5, 257, 1<<32 + 1, math.MinInt, math.MaxInt}
	for _, x := range l[:min(len(l), 70)] {
		sagas = append(sagas, x.Saga)
	}
	slices.Sort(sagas)
	return slices.Compact(sagas), kinds
}

// wantFind is the reference of Find: from the back, the last one that is met.
func wantFind(l []api.Timer, saga, kind int) (api.Timer, bool) {
	var found api.Timer
	is := false
	for i := len(l) - 1; i >= 0; i-- {
		if l[i].Saga == saga && l[i].Kind == kind {
			found, is = l[i], true
		}
	}
	return found, is
}

// checkFind holds Find against its reference.
func checkFind(t *testing.T, l []api.Timer, saga, kind int) bool {
	t.Helper()
	before := slices.Clone(l)
	want, is := wantFind(l, saga, kind)
	if got, ok := timer.Find(l, saga, kind); got != want || ok != is {
		t.Fatalf("Find(%s; %d, %d) is %v, %t; want %v, %t", short(l), saga, kind, got, ok, want, is)
	}
	if !slices.Equal(l, before) {
		t.Fatalf("Find changed %s", short(before))
	}
	return is
}

// TestFind is of P16.1: in lists of each length each timer, first, in the midst
// and last; and what has the Saga alone or the Kind alone.
func TestFind(t *testing.T) {
	for many := range 65 {
		for _, l := range [][]api.Timer{some(many), dense(many)} {
			found := 0
			sagas, kinds := askedFor(l)
			for _, saga := range sagas {
				for _, kind := range kinds {
					if checkFind(t, l, saga, kind) {
						found++
					}
				}
			}
			if found != many {
				t.Fatalf("in %s are found %d", short(l), found)
			}
			for _, x := range l {
				if got, is := timer.Find(l, x.Saga, x.Kind); !is || got != x {
					t.Fatalf("Find(%s; %d, %d) is %v, %t", short(l), x.Saga, x.Kind, got, is)
				}
			}
		}
	}
	l := []api.Timer{tm(1, 5, 2), tm(2, 6, 3), tm(3, 5, 4)}
	for _, x := range [][2]int{{5, 3}, {6, 2}, {6, 4}, {5, 0}, {6, 0}, {0, 2}, {1, 5}, {2, 6}, {2, 5}, {3, 6}, {4, 5}, {7, 3}, {-5, 2}, {5, -2}} {
		if got, is := timer.Find(l, x[0], x[1]); is || got != (api.Timer{}) {
			t.Errorf("Find(%s; %v) is %v, %t", short(l), x, got, is)
		}
	}
}

// TestFindInUnfit is of P16.1: in lists that are not fit, the first timer that
// has the Saga and the Kind, whatever these are.
func TestFindInUnfit(t *testing.T) {
	for _, l := range append(messy(), unfit()...) {
		for _, x := range l[:min(len(l), 70)] {
			if !checkFind(t, l, x.Saga, x.Kind) {
				t.Fatalf("not found in %s: %v", short(l), x)
			}
		}
	}
	for _, l := range messy() {
		sagas, kinds := askedFor(l)
		for _, saga := range sagas {
			for _, kind := range kinds {
				checkFind(t, l, saga, kind)
			}
		}
	}
	l := messy()[0]
	for kind, at := range map[int]int{1: 9, 2: 2} {
		if got, is := timer.Find(l, 3, kind); !is || got != tm(at, 3, kind) {
			t.Errorf("Find(%s; 3, %d) is %v, %t", short(l), kind, got, is)
		}
	}
}

// checkFirst holds First against what is wanted.
func checkFirst(t *testing.T, l []api.Timer, now int, want api.Timer, is bool) {
	t.Helper()
	before := slices.Clone(l)
	if got, ok := timer.First(l, now); got != want || ok != is {
		t.Errorf("First(%s; %d) is %v, %t; want %v, %t", short(l), now, got, ok, want, is)
	}
	if !slices.Equal(l, before) {
		t.Fatalf("First changed %s", short(before))
	}
}

// TestFirst is of P16.1: just below, at and above the At of the first timer.
func TestFirst(t *testing.T) {
	l := []api.Timer{tm(3, 2, 1), tm(5, 1, 1)}
	checkFirst(t, l, 2, api.Timer{}, false)
	checkFirst(t, l, 3, l[0], true)
	checkFirst(t, l, 4, l[0], true)
	checkFirst(t, l, 5, l[0], true)
	checkFirst(t, l[1:], 4, api.Timer{}, false)
	for _, at := range goodAts() {
		for many := 1; many < 5; many++ {
			l := []api.Timer{tm(at, 7, 3), tm(at, 8, 1), tm(at, 8, 2), tm(most, 9, 4)}[:many]
			for _, now := range []int{math.MinInt, math.MinInt + 1, -most, -at - 1, -1, at - 1} {
				checkFirst(t, l, now, api.Timer{}, false)
			}
			for _, now := range []int{at, at + 1, most, most + 1, 1 << 62, math.MaxInt} {
				checkFirst(t, l, now, tm(at, 7, 3), true)
			}
		}
	}
	for many := 1; many < 65; many++ {
		checkFirst(t, some(many), 9, api.Timer{}, false)
		checkFirst(t, some(many), 10, some(1)[0], true)
		checkFirst(t, some(many), most, some(1)[0], true)
		checkFirst(t, some(many)[many-1:], some(many)[many-1].At, some(many)[many-1], true)
	}
}

// TestFirstOfNone is of P16.1: where there are no timers, no time has a first.
func TestFirstOfNone(t *testing.T) {
	for _, now := range append(goodAts(), badAts()...) {
		checkFirst(t, nil, now, api.Timer{}, false)
		checkFirst(t, []api.Timer{}, now, api.Timer{}, false)
		checkFirst(t, some(3)[:0], now, api.Timer{}, false)
	}
}

// TestFirstOfUnfit is of P16.1: First asks for no fit list, so the first timer
// alone tells, whatever stands behind it.
func TestFirstOfUnfit(t *testing.T) {
	for _, l := range append(messy(), unfit()...) {
		at := l[0].At
		checkFirst(t, l, at, l[0], true)
		checkFirst(t, l, math.MaxInt, l[0], true)
		if at > math.MinInt {
			checkFirst(t, l, at-1, api.Timer{}, false)
			checkFirst(t, l, math.MinInt, api.Timer{}, false)
		}
	}
	l := []api.Timer{tm(9, 1, 1), tm(2, 2, 2), tm(-5, 3, 3)}
	checkFirst(t, l, 8, api.Timer{}, false)
	checkFirst(t, l, 9, l[0], true)
	checkFirst(t, []api.Timer{tm(-5, 0, 9)}, -5, tm(-5, 0, 9), true)
	checkFirst(t, []api.Timer{tm(-5, 0, 9)}, -6, api.Timer{}, false)
	checkFirst(t, []api.Timer{{}}, 0, api.Timer{}, true)
	checkFirst(t, []api.Timer{{}}, -1, api.Timer{}, false)
	checkFirst(t, []api.Timer{tm(math.MinInt, 1, 1)}, math.MinInt, tm(math.MinInt, 1, 1), true)
	checkFirst(t, []api.Timer{tm(math.MaxInt, 1, 1)}, math.MaxInt, tm(math.MaxInt, 1, 1), true)
	checkFirst(t, []api.Timer{tm(math.MaxInt, 1, 1)}, math.MinInt, api.Timer{}, false)
}
