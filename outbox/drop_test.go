package outbox_test

import (
	"slices"
	"testing"

	"drayman/api"
	"drayman/outbox"
)

// laid lays a list into a longer array, so that something lies ahead of it and
// behind it. It tells whether all of that is still as it was.
func laid(l []api.Entry) ([]api.Entry, func() bool) {
	around := slices.Repeat([]api.Entry{en(-5, -6)}, 3)
	array := slices.Concat(around, l, around)
	before := slices.Clone(array)
	return array[3 : 3+len(l)], func() bool { return slices.Equal(array, before) }
}

// spoil overwrites a list and what lies behind its length.
func spoil(l []api.Entry) {
	l = l[:cap(l)]
	for i := range l {
		l[i] = en(-9, -9)
	}
}

// checkMemory reports what a call has changed of the list that it was handed or
// shares with it. It calls anew, since the lists are spoilt.
func checkMemory(t *testing.T, what string, l []api.Entry, do func(l []api.Entry) []api.Entry) {
	t.Helper()
	list, asItWas := laid(l)
	got := do(list)
	if !asItWas() {
		t.Fatalf("%s of %s changed what was handed in", what, short(l))
	}
	want := slices.Clone(got)
	spoil(list)
	if !slices.Equal(got, want) {
		t.Fatalf("%s of %s answered %s, which is %s when what was handed in is turned", what, short(l), short(want), short(got))
	}
	list, asItWas = laid(l)
	spoil(do(list))
	if !asItWas() {
		t.Fatalf("%s of %s shares memory with what was handed in", what, short(l))
	}
}

// without is the reference of Drop: what is left of a list.
func without(l []api.Entry, saga int) []api.Entry {
	return slices.DeleteFunc(slices.Clone(l), func(x api.Entry) bool { return x.Saga == saga })
}

// checkDrop holds Drop against its reference, and looks at its memory. It tells
// how many entries were dropped.
func checkDrop(t *testing.T, l []api.Entry, saga int) int {
	t.Helper()
	want := without(l, saga)
	got := outbox.Drop(l, saga)
	if !slices.Equal(got, want) {
		t.Fatalf("Drop(%s; %d) is %s", short(l), saga, short(got))
	}
	if wantFit(l) && !outbox.Fit(got) {
		t.Fatalf("Drop(%s; %d) is %s, which is not fit", short(l), saga, short(got))
	}
	checkMemory(t, "Drop", l, func(l []api.Entry) []api.Entry { return outbox.Drop(l, saga) })
	return len(l) - len(got)
}

// TestDrop is of P17.1 and P17.3: in lists of each length each saga, and what is
// not there.
func TestDrop(t *testing.T) {
	for many := range 17 {
		for _, l := range [][]api.Entry{some(many), dense(many)} {
			dropped := 0
			for _, saga := range sagasFor(l) {
				dropped += checkDrop(t, l, saga)
			}
			if dropped != many {
				t.Fatalf("of %s are dropped %d", short(l), dropped)
			}
			for i, x := range l {
				if got := outbox.Drop(l, x.Saga); !slices.Equal(got, slices.Delete(slices.Clone(l), i, i+1)) {
					t.Fatalf("Drop(%s; %d) is %s", short(l), x.Saga, short(got))
				}
			}
		}
	}
}

// TestDropOfFew is of P17.1: what is left, written out.
func TestDropOfFew(t *testing.T) {
	a, b, c := en(1, 5), en(2, 7), en(3, 6)
	l := []api.Entry{a, b, c}
	for _, x := range []struct {
		saga int
		left []api.Entry
	}{
		{5, []api.Entry{b, c}}, {7, []api.Entry{a, c}}, {6, []api.Entry{a, b}},
		{4, l}, {8, l}, {1, l}, {2, l}, {3, l}, {0, l}, {-5, l}, {1<<32 + 5, l}, {256 + 5, l}, {most, l},
	} {
		if got := outbox.Drop(l, x.saga); !slices.Equal(got, x.left) {
			t.Errorf("Drop(%s; %d) is %s", short(l), x.saga, short(got))
		}
		checkDrop(t, l, x.saga)
	}
	if got := outbox.Drop([]api.Entry{a}, 5); len(got) != 0 {
		t.Errorf("of the only entry is left %s", short(got))
	}
	if got := outbox.Drop([]api.Entry{a}, 1); !slices.Equal(got, l[:1]) {
		t.Errorf("of the only entry is left %s", short(got))
	}
	if len(outbox.Drop(nil, 5)) != 0 || len(outbox.Drop([]api.Entry{}, 5)) != 0 {
		t.Errorf("something is left of nothing")
	}
}

// TestDropOfUnfit is of P17.1: Drop asks for no fit list, so all entries of the
// saga go, and the others stay as they stand.
func TestDropOfUnfit(t *testing.T) {
	for _, l := range messy() {
		for _, saga := range sagasFor(l) {
			checkDrop(t, l, saga)
		}
	}
	for _, l := range unfit() {
		for _, x := range []api.Entry{l[0], l[len(l)/2], l[len(l)-1]} {
			checkDrop(t, l, x.Saga)
		}
	}
	l := []api.Entry{en(9, 3), en(2, 3), en(7, 1), en(2, 3), {Saga: 4}, en(9, 3)}
	if got := outbox.Drop(l, 3); !slices.Equal(got, []api.Entry{l[2], l[4]}) {
		t.Errorf("of %s is left %s", short(l), short(got))
	}
	if got := outbox.Drop(l[:2], 3); len(got) != 0 {
		t.Errorf("of %s is left %s", short(l[:2]), short(got))
	}
}
