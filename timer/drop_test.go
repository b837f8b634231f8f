package timer_test

import (
	"slices"
	"testing"

	"drayman/api"
	"drayman/timer"
)

// laid lays a list into a longer array, so that something lies ahead of it and
// behind it. It tells whether all of that is still as it was.
func laid(l []api.Timer) ([]api.Timer, func() bool) {
	around := slices.Repeat([]api.Timer{tm(-5, -6, -7)}, 3)
	array := slices.Concat(around, l, around)
	before := slices.Clone(array)
	return array[3 : 3+len(l)], func() bool { return slices.Equal(array, before) }
}

// spoil overwrites a list and what lies behind its length.
func spoil(l []api.Timer) {
	l = l[:cap(l)]
	for i := range l {
		l[i] = tm(-9, -9, -9)
	}
}

// checkMemory reports what a call has changed of the list that it was handed or
// shares with it. It calls anew, since the lists are spoilt.
func checkMemory(t *testing.T, what string, l []api.Timer, do func(l []api.Timer) []api.Timer) {
	t.Helper()
	list, asItWas := laid(l)
	got := do(list)
	if !asItWas() {
		t.Fatalf("%s of %s changed what was handed in", what, short(l))
	}
	want := slices.Clone(got)
	spoil(list)
	if !slices.Equal(got, want) {
		t.Fatalf("%s of %s answered %s, which is %s when what was handed in is turned", what, short(l), short(want), short(got))
	}
	list, asItWas = laid(l)
	spoil(do(list))
	if !asItWas() {
		t.Fatalf("%s of %s shares memory with what was handed in", what, short(l))
	}
}

// without is the reference of Drop: what is left of a list.
func without(l []api.Timer, saga, kind int) []api.Timer {
	return slices.DeleteFunc(slices.Clone(l), func(x api.Timer) bool {
		return x.Saga == saga && (kind == 0 || x.Kind == kind)
	})
}

// checkDrop holds Drop against its reference, and looks at its memory. It tells
// how many timers were dropped.
func checkDrop(t *testing.T, l []api.Timer, saga, kind int) int {
	t.Helper()
	want := without(l, saga, kind)
	got := timer.Drop(l, saga, kind)
	if !slices.Equal(got, want) {
		t.Fatalf("Drop(%s; %d, %d) is %s", short(l), saga, kind, short(got))
	}
	if wantFit(l) && (!wantFit(got) || !timer.Fit(got)) {
		t.Fatalf("Drop(%s; %d, %d) is %s, which is not fit", short(l), saga, kind, short(got))
	}
	checkMemory(t, "Drop", l, func(l []api.Timer) []api.Timer { return timer.Drop(l, saga, kind) })
	return len(l) - len(got)
}

// TestDrop is of P16.1 and P16.3: in lists of each length each timer by its
// Kind, each Saga by the kind 0, and what is not there.
func TestDrop(t *testing.T) {
	for many := range 65 {
		for _, l := range [][]api.Timer{some(many), dense(many)} {
			sagas, kinds := askedFor(l)
			one, all := 0, 0
			for _, saga := range sagas {
				for _, kind := range kinds {
					if kind == 0 {
						all += checkDrop(t, l, saga, kind)
					} else {
						one += checkDrop(t, l, saga, kind)
					}
				}
			}
			if one != many || all != many {
				t.Fatalf("of %s are dropped %d and %d", short(l), one, all)
			}
		}
	}
}

// TestDropOfFew is of P16.1: what is left, written out.
func TestDropOfFew(t *testing.T) {
	a, b, c, d, e := tm(1, 5, 2), tm(2, 6, 3), tm(2, 6, 4), tm(3, 5, 4), tm(4, 7, 2)
	l := []api.Timer{a, b, c, d, e}
	for _, x := range []struct {
		saga, kind int
		left       []api.Timer
	}{
		{5, 2, []api.Timer{b, c, d, e}}, {5, 4, []api.Timer{a, b, c, e}}, {6, 3, []api.Timer{a, c, d, e}}, {6, 4, []api.Timer{a, b, d, e}}, {7, 2, []api.Timer{a, b, c, d}},
		{5, 0, []api.Timer{b, c, e}}, {6, 0, []api.Timer{a, d, e}}, {7, 0, []api.Timer{a, b, c, d}},
		{5, 3, l}, {6, 2, l}, {7, 1, l}, {8, 0, l}, {4, 2, l}, {0, 0, l}, {0, 2, l}, {1, 5, l}, {-5, 2, l}, {5, -2, l}, {5, 1, l}, {5, 5, l}, {5, 1<<32 + 2, l}, {1<<32 + 5, 0, l},
	} {
		if got := timer.Drop(l, x.saga, x.kind); !slices.Equal(got, x.left) {
			t.Errorf("Drop(%s; %d, %d) is %s", short(l), x.saga, x.kind, short(got))
		}
		checkDrop(t, l, x.saga, x.kind)
	}
	for _, kind := range []int{0, 2} {
		if got := timer.Drop([]api.Timer{a}, 5, kind); len(got) != 0 {
			t.Errorf("of the only timer is left %s", short(got))
		}
		if got := timer.Drop([]api.Timer{a, d}, 5, kind); len(got) != kind/2 {
			t.Errorf("of two timers are left %s", short(got))
		}
		if len(timer.Drop(nil, 5, kind)) != 0 || len(timer.Drop([]api.Timer{}, 5, kind)) != 0 {
			t.Errorf("something is left of nothing")
		}
	}
}

// TestDropOfUnfit is of P16.1: Drop asks for no fit list, so all timers of the
// Saga and Kind go, and the others stay as they stand.
func TestDropOfUnfit(t *testing.T) {
	for _, l := range messy() {
		sagas, kinds := askedFor(l)
		for _, saga := range sagas {
			for _, kind := range kinds {
				checkDrop(t, l, saga, kind)
			}
		}
	}
	for _, l := range unfit() {
		for _, x := range []api.Timer{l[0], l[len(l)/2], l[len(l)-1]} {
			checkDrop(t, l, x.Saga, x.Kind)
			checkDrop(t, l, x.Saga, 0)
		}
	}
	l := []api.Timer{tm(9, 3, 1), tm(2, 3, 0), tm(7, 1, 1), tm(2, 3, 1), tm(9, 3, 9)}
	if got := timer.Drop(l, 3, 1); !slices.Equal(got, []api.Timer{l[1], l[2], l[4]}) {
		t.Errorf("of %s is left %s", short(l), short(got))
	}
	if got := timer.Drop(l, 3, 0); !slices.Equal(got, []api.Timer{l[2]}) {
		t.Errorf("of %s is left %s", short(l), short(got))
	}
}
