package outbox_test

import (
	"math"
	"slices"
	"testing"

	"drayman/api"
	"drayman/outbox"
)

// messy are lists that are not fit and have a saga or an Id more than once, in
// any order, or entries that are not valid.
func messy() [][]api.Entry {
	return [][]api.Entry{
		{en(9, 3), en(2, 3), en(7, 1), en(4, 3), en(9, 2), en(1, 1), en(0, 1)},
		{en(5, 0), en(4, -1), en(-3, -1), en(6, 0), en(math.MinInt, math.MaxInt), en(math.MaxInt, math.MaxInt), en(8, math.MinInt), en(math.MinInt, 0)},
		{en(5, 3), en(5, 3), en(5, 3)},
		{{}, {}, {Id: 1}, {Saga: 1}, {Step: 1}, {Sum: 1}},
		{{Id: 5, Saga: 3, Sum: 1}, {Id: 5, Saga: 3, Sum: 2}, {Id: 5, Saga: 3, Sum: 3, Must: true}, {Id: 4, Saga: 3, Back: true}},
		{en(5, 1<<32+1), en(1<<32+5, 1), en(7, 1), en(1<<32+7, 257), en(8, 257)},
		slices.Repeat(some(20), 30),
		slices.Repeat([]api.Entry{en(7, 1), en(6, 2)}, 40),
	}
}

// sagasFor are Sagas to ask a list for: those of its entries, those beside them,
// and those at the edges.
func sagasFor(l []api.Entry) []int {
	sagas := []int{-1, 0, 1, 2, 3, 4, most, most + 1, math.MinInt, math.MaxInt, 257, 1<<32 + 1}
	for _, x := range l {
		sagas = append(sagas, x.Saga-1, x.Saga, x.Saga+1, x.Id)
	}
	slices.Sort(sagas)
	return slices.Compact(sagas)
}

// cursorsFor are numbers to ask a list for what is behind them.
func cursorsFor(l []api.Entry) []int {
	cursors := []int{-1, 0, 1, 2, 3, 4, most - 1, most, most + 1, math.MinInt, math.MinInt + 1, math.MaxInt - 1, math.MaxInt, 257, 1<<32 + 1}
	for _, x := range l {
		cursors = append(cursors, x.Id-1, x.Id, x.Id+1)
	}
	slices.Sort(cursors)
	return slices.Compact(cursors)
}

// wantFind is the reference of Find: from the back, the last one that is met.
func wantFind(l []api.Entry, saga int) (api.Entry, bool) {
	var found api.Entry
	is := false
	for i := len(l) - 1; i >= 0; i-- {
		if l[i].Saga == saga {
			found, is = l[i], true
		}
	}
	return found, is
}

// checkFind holds Find against its reference.
func checkFind(t *testing.T, l []api.Entry, saga int) bool {
	t.Helper()
	before := slices.Clone(l)
	want, is := wantFind(l, saga)
	if got, ok := outbox.Find(l, saga); got != want || ok != is {
		t.Fatalf("Find(%s; %d) is %v, %t; want %v, %t", short(l), saga, got, ok, want, is)
	}
	if !slices.Equal(l, before) {
		t.Fatalf("Find changed %s", short(before))
	}
	return is
}

// TestFind is of P17.1: in lists of each length each saga, first, in the midst
// and last; and what is not there.
func TestFind(t *testing.T) {
	for many := range 17 {
		for _, l := range [][]api.Entry{some(many), dense(many)} {
			found := 0
			for _, saga := range sagasFor(l) {
				if checkFind(t, l, saga) {
					found++
				}
			}
			if found != many {
				t.Fatalf("in %s are found %d", short(l), found)
			}
			for _, x := range l {
				if got, is := outbox.Find(l, x.Saga); !is || got != x {
					t.Fatalf("Find(%s; %d) is %v, %t", short(l), x.Saga, got, is)
				}
			}
		}
	}
	l := []api.Entry{en(1, 5), en(2, 6), en(3, 7)}
	for _, saga := range []int{4, 8, 1, 2, 3, 0, -5, 50, 1<<32 + 5, 256 + 5} {
		if got, is := outbox.Find(l, saga); is || got != (api.Entry{}) {
			t.Errorf("Find(%s; %d) is %v, %t", short(l), saga, got, is)
		}
	}
	whole := api.Entry{Id: 4, Saga: 8, Step: 5, Back: true, Op: 6, Sum: 7, Must: true}
	if got, is := outbox.Find(append(l, whole), 8); !is || got != whole {
		t.Errorf("found is %v, %t", got, is)
	}
}

// TestFindInUnfit is of P17.1: in lists that are not fit, the first entry that
// has the saga, whatever this is.
func TestFindInUnfit(t *testing.T) {
	for _, l := range append(messy(), unfit()...) {
		for _, x := range l[:min(len(l), 30)] {
			if !checkFind(t, l, x.Saga) {
				t.Fatalf("not found in %s: %v", short(l), x)
			}
		}
	}
	for _, l := range messy() {
		for _, saga := range sagasFor(l) {
			checkFind(t, l, saga)
		}
	}
	l := messy()[0]
	for saga, want := range map[int]api.Entry{3: l[0], 1: l[2], 2: l[4]} {
		if got, is := outbox.Find(l, saga); !is || got != want {
			t.Errorf("Find(%s; %d) is %v, %t", short(l), saga, got, is)
		}
	}
	// The zero entry is found where it is there, and is no other answer then.
	if got, is := outbox.Find([]api.Entry{{}, {Sum: 1}}, 0); !is || got != (api.Entry{}) {
		t.Errorf("the zero entry: %v, %t", got, is)
	}
}

// behind is the reference of Since.
func behind(l []api.Entry, cursor int) []api.Entry {
	return slices.DeleteFunc(slices.Clone(l), func(x api.Entry) bool { return x.Id <= cursor })
}

// checkSince holds Since against its reference, and looks at its memory. It
// tells how many entries there are.
func checkSince(t *testing.T, l []api.Entry, cursor int) int {
	t.Helper()
	want := behind(l, cursor)
	got := outbox.Since(l, cursor)
	if !slices.Equal(got, want) {
		t.Fatalf("Since(%s; %d) is %s; want %s", short(l), cursor, short(got), short(want))
	}
	if wantFit(l) && !outbox.Fit(got) {
		t.Fatalf("Since(%s; %d) is %s, which is not fit", short(l), cursor, short(got))
	}
	checkMemory(t, "Since", l, func(l []api.Entry) []api.Entry { return outbox.Since(l, cursor) })
	return len(got)
}

// TestSince is of P17.1: just below, at and above each Id, in lists of each
// length, and the least and the greatest numbers.
func TestSince(t *testing.T) {
	for many := range 17 {
		for _, l := range [][]api.Entry{some(many), dense(many)} {
			for _, cursor := range cursorsFor(l) {
				checkSince(t, l, cursor)
			}
			for i, x := range l {
				if got := checkSince(t, l, x.Id-1); got != many-i {
					t.Fatalf("below %d of %s are %d", x.Id, short(l), got)
				}
				if got := checkSince(t, l, x.Id); got != many-i-1 {
					t.Fatalf("at %d of %s are %d", x.Id, short(l), got)
				}
			}
			for _, cursor := range []int{math.MinInt, math.MinInt + 1, -most, -1, 0} {
				if got := checkSince(t, l, cursor); got != many {
					t.Fatalf("since %d are %d of %d", cursor, got, many)
				}
			}
			for _, cursor := range []int{10*many + 10, most, most + 1, math.MaxInt} {
				if got := checkSince(t, l, cursor); got != 0 {
					t.Fatalf("since %d are %d of %d", cursor, got, many)
				}
			}
		}
	}
}

// TestSinceAtEdges is of P17.1: what is behind numbers at the edges of Ids.
func TestSinceAtEdges(t *testing.T) {
	var l []api.Entry
	for i, id := range goodIds() {
		l = append(l, en(id, 100-i))
	}
	for i, id := range goodIds() {
		if got := outbox.Since(l, id); !slices.Equal(got, l[i+1:]) {
			t.Errorf("since %d is %s", id, short(got))
		}
		if got := outbox.Since(l, id-1); !slices.Equal(got, l[i:]) {
			t.Errorf("since %d is %s", id-1, short(got))
		}
		checkSince(t, l, id+1)
	}
	for _, cursor := range badSums() {
		checkSince(t, l, cursor)
	}
}

// TestSinceOfUnfit is of P17.1: Since asks for no fit list, so every entry with
// a greater Id is there, wherever it stands, and in the order of the list.
func TestSinceOfUnfit(t *testing.T) {
	for _, l := range messy() {
		for _, cursor := range cursorsFor(l) {
			checkSince(t, l, cursor)
		}
	}
	for _, l := range unfit() {
		for _, x := range []api.Entry{l[0], l[len(l)/2], l[len(l)-1]} {
			for _, cursor := range []int{x.Id - 1, x.Id, x.Id + 1} {
				checkSince(t, l, cursor)
			}
		}
	}
	l := []api.Entry{en(9, 3), en(2, 3), en(7, 1), en(2, 5), en(9, 0), en(-4, 1)}
	for _, x := range []struct {
		cursor int
		want   []api.Entry
	}{
		{-5, l}, {-4, l[:5]}, {1, l[:5]}, {2, []api.Entry{l[0], l[2], l[4]}}, {6, []api.Entry{l[0], l[2], l[4]}},
		{7, []api.Entry{l[0], l[4]}}, {8, []api.Entry{l[0], l[4]}}, {9, nil}, {math.MaxInt, nil}, {math.MinInt, l},
	} {
		if got := outbox.Since(l, x.cursor); !slices.Equal(got, x.want) {
			t.Errorf("Since(%s; %d) is %s", short(l), x.cursor, short(got))
		}
	}
	ends := []api.Entry{en(math.MinInt, 1), en(math.MaxInt, 2), en(math.MinInt, 3)}
	if got := outbox.Since(ends, math.MinInt); !slices.Equal(got, ends[1:2]) {
		t.Errorf("since the least number is %s", short(got))
	}
	if got := outbox.Since(ends, math.MaxInt); len(got) != 0 {
		t.Errorf("since the greatest number is %s", short(got))
	}
}

// TestService is of P17.1: each Op, the numbers beside them, and the edges.
func TestService(t *testing.T) {
	want := [10]int{2: 1, 4: 2, 6: 1}
	for op := range want {
		if got := outbox.Service(op); got != want[op] {
			t.Errorf("Service(%d) is %d", op, got)
		}
	}
	for _, op := range []int{api.OpHold, api.OpKeep, api.OpSend} {
		if got := outbox.Service(op); got != 0 {
			t.Errorf("a local Op has Service %d", got)
		}
	}
	if outbox.Service(api.OpAuth) != api.Pay || outbox.Service(api.OpTake) != api.Pay || outbox.Service(api.OpBook) != api.Carry {
		t.Errorf("the Ops of the services are others")
	}
	for op := 10; op < 1<<12; op++ {
		if outbox.Service(op) != 0 || outbox.Service(-op) != 0 {
			t.Errorf("Service(%d) is %d, and of less than 0 %d", op, outbox.Service(op), outbox.Service(-op))
		}
	}
	for op := -9; op < 0; op++ {
		if outbox.Service(op) != 0 {
			t.Errorf("Service(%d) is %d", op, outbox.Service(op))
		}
	}
	for _, op := range badOps() {
		if got := outbox.Service(op); got != 0 {
			t.Errorf("Service(%d) is %d", op, got)
		}
	}
}
