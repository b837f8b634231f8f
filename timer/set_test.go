package timer_test

import (
	"slices"
	"testing"

	"drayman/api"
	"drayman/timer"
)

// wantSet is the reference of Set: error by error, and the timer at the place
// that the number of those ahead of it tells.
func wantSet(l []api.Timer, x api.Timer) ([]api.Timer, api.Errno) {
	if !wantFit(l) {
		return nil, api.ErrBad
	}
	if !wantValid(x) {
		return nil, api.ErrArg
	}
	if _, is := wantFind(l, x.Saga, x.Kind); !is && len(l) == full {
		return nil, api.ErrFull
	}
	rest := without(l, x.Saga, x.Kind)
	ahead := 0
	for _, y := range rest {
		if wantAhead(y, x) {
			ahead++
		}
	}
	return slices.Concat(rest[:ahead], []api.Timer{x}, rest[ahead:]), api.OK
}

// checkSet holds Set against its reference, and looks at what comes of it and at
// its memory.
func checkSet(t *testing.T, l []api.Timer, x api.Timer) api.Errno {
	t.Helper()
	want, wantErr := wantSet(l, x)
	got, err := timer.Set(l, x)
	if err != wantErr || !slices.Equal(got, want) {
		t.Fatalf("Set(%s; %v) is %s, %d; want %s, %d", short(l), x, short(got), err, short(want), wantErr)
	}
	if err != api.OK {
		if got != nil {
			t.Fatalf("Set(%s; %v) tells %s beside %d", short(l), x, short(got), err)
		}
	} else if found, is := timer.Find(got, x.Saga, x.Kind); !is || found != x || !wantFit(got) || !timer.Fit(got) {
		t.Fatalf("Set(%s; %v) is %s, which is not fit or does not have it", short(l), x, short(got))
	}
	checkMemory(t, "Set", l, func(l []api.Timer) []api.Timer {
		got, _ := timer.Set(l, x)
		return got
	})
	return err
}

// checkErr holds an error against what is wanted.
func checkErr(t *testing.T, what string, err, want api.Errno) {
	t.Helper()
	if err != want {
		t.Fatalf("%s is %d, not %d", what, err, want)
	}
}

// TestSet is of P16.2: at the front, in the midst and at the end, written out.
func TestSet(t *testing.T) {
	var l []api.Timer
	for _, x := range []struct {
		set  api.Timer
		want []api.Timer
	}{
		{tm(5, 1, 1), []api.Timer{tm(5, 1, 1)}},
		{tm(3, 2, 1), []api.Timer{tm(3, 2, 1), tm(5, 1, 1)}},
		{tm(9, 1, 2), []api.Timer{tm(3, 2, 1), tm(5, 1, 1), tm(9, 1, 2)}},
		{tm(4, 3, 4), []api.Timer{tm(3, 2, 1), tm(4, 3, 4), tm(5, 1, 1), tm(9, 1, 2)}},
		{tm(5, 1, 1), []api.Timer{tm(3, 2, 1), tm(4, 3, 4), tm(5, 1, 1), tm(9, 1, 2)}},
		{tm(9, 1, 1), []api.Timer{tm(3, 2, 1), tm(4, 3, 4), tm(9, 1, 1), tm(9, 1, 2)}},
		{tm(9, 2, 1), []api.Timer{tm(4, 3, 4), tm(9, 1, 1), tm(9, 1, 2), tm(9, 2, 1)}},
		{tm(0, 1, 2), []api.Timer{tm(0, 1, 2), tm(4, 3, 4), tm(9, 1, 1), tm(9, 2, 1)}},
		{tm(most, 1, 2), []api.Timer{tm(4, 3, 4), tm(9, 1, 1), tm(9, 2, 1), tm(most, 1, 2)}},
		{tm(9, 1, 4), []api.Timer{tm(4, 3, 4), tm(9, 1, 1), tm(9, 1, 4), tm(9, 2, 1), tm(most, 1, 2)}},
		{tm(9, most, 1), []api.Timer{tm(4, 3, 4), tm(9, 1, 1), tm(9, 1, 4), tm(9, 2, 1), tm(9, most, 1), tm(most, 1, 2)}},
	} {
		checkSet(t, l, x.set)
		got, err := timer.Set(l, x.set)
		checkErr(t, "Set", err, api.OK)
		if !slices.Equal(got, x.want) {
			t.Fatalf("Set(%s; %v) is %s", short(l), x.set, short(got))
		}
		l = got
	}
}

// TestSetAtEachPlace is of P16.2: a timer that is not there, ahead of all,
// behind all and between any two, by At, by Saga and by Kind.
func TestSetAtEachPlace(t *testing.T) {
	for many := range 64 {
		l := some(many)
		for _, x := range append(l, tm(0, 7777, 1)) {
			for _, at := range []int{x.At - min(x.At, 1), x.At, x.At + 1, most} {
				checkErr(t, "Set of another Saga", checkSet(t, l, tm(at, x.Saga+1, 4-x.Kind%4)), api.OK)
				checkErr(t, "Set of another Saga", checkSet(t, l, tm(at, x.Saga-1, x.Kind)), api.OK)
				checkErr(t, "Set of another Kind", checkSet(t, l, tm(at, x.Saga, x.Kind%4+1)), api.OK)
			}
		}
		for _, at := range goodAts() {
			checkErr(t, "Set of the least Saga", checkSet(t, l, tm(at, 1, 1)), api.OK)
			checkErr(t, "Set of the greatest Saga", checkSet(t, l, tm(at, most, 4)), api.OK)
		}
		for _, saga := range goodSagas() {
			checkErr(t, "Set of any Saga", checkSet(t, l, tm(10, saga, 4)), api.OK)
		}
	}
}

// TestSetAtOneAt is of P16.2: all timers at one At, in every place that the Saga
// and the Kind tell.
func TestSetAtOneAt(t *testing.T) {
	var all []api.Timer
	for saga := 1; saga <= 3; saga++ {
		for kind := 1; kind <= 4; kind++ {
			all = append(all, tm(7, saga, kind))
		}
	}
	for i, x := range all {
		l := slices.Delete(slices.Clone(all), i, i+1)
		if got, err := timer.Set(l, x); err != api.OK || !slices.Equal(got, all) {
			t.Errorf("Set(%s; %v) is %s, %d", short(l), x, short(got), err)
		}
		checkSet(t, l, x)
		checkSet(t, all, x)
	}
}

// TestSetAnew is of P16.2: a timer whose Saga and Kind are there, earlier,
// later, at the same time, and at the time of each other one.
func TestSetAnew(t *testing.T) {
	for _, many := range []int{1, 2, 3, 9, 32, 63, 64} {
		for _, l := range [][]api.Timer{some(many), dense(many)} {
			for _, x := range l {
				ats := []int{0, max(x.At-1, 0), x.At, x.At + 1, most - 1, most}
				for _, y := range l {
					ats = append(ats, y.At)
				}
				slices.Sort(ats)
				for _, at := range slices.Compact(ats) {
					checkErr(t, "Set anew", checkSet(t, l, tm(at, x.Saga, x.Kind)), api.OK)
					if got, _ := timer.Set(l, tm(at, x.Saga, x.Kind)); len(got) != many {
						t.Fatalf("Set(%s; %v) has another length: %s", short(l), x, short(got))
					}
				}
			}
		}
	}
	l := some(64)
	for _, x := range l {
		if got, err := timer.Set(l, x); err != api.OK || !slices.Equal(got, l) {
			t.Fatalf("set as it is: %s, %d", short(got), err)
		}
	}
}

// TestSetFull is of P16.2: where there are 64 timers, what is not there has no
// room, wherever it would stand; and where there are 63, it has.
func TestSetFull(t *testing.T) {
	for _, l := range [][]api.Timer{some(64), dense(64)} {
		for _, at := range goodAts() {
			for kind := 1; kind <= 4; kind++ {
				for _, saga := range []int{17, 1 << 32, most} {
					checkErr(t, "Set into a full list", checkSet(t, l, tm(at, saga, kind)), api.ErrFull)
					checkErr(t, "Set of the last", checkSet(t, l[1:], tm(at, saga, kind)), api.OK)
					checkErr(t, "Set of the last", checkSet(t, l[:63], tm(at, saga, kind)), api.OK)
				}
			}
		}
	}
	for _, x := range some(64) {
		checkErr(t, "Set of another Kind", checkSet(t, some(64), tm(x.At, x.Saga, x.Kind%4+1)), api.ErrFull)
		checkErr(t, "Set of another Saga", checkSet(t, some(64), tm(x.At, x.Saga+1, x.Kind)), api.ErrFull)
	}
}

// TestSetOfInvalid is of P16.2: each reason for which a timer is not valid, with
// lists of each kind, also where the list is full or has the Saga and Kind.
func TestSetOfInvalid(t *testing.T) {
	for _, many := range []int{0, 1, 2, 9, 63, 64} {
		l := some(many)
		for _, x := range append(l, tm(15, 5, 1), tm(0, 1, 1), tm(most, most, 4)) {
			for _, bad := range badTimers(x) {
				checkErr(t, "Set of what is not valid", checkSet(t, l, bad), api.ErrArg)
			}
		}
	}
}

// TestSetIntoUnfit is of P16.2: a list that is not fit comes first of the
// errors, and is one where the timer would be the only fault of it too.
func TestSetIntoUnfit(t *testing.T) {
	for _, l := range unfit() {
		for _, x := range []api.Timer{tm(5, 7777, 1), tm(-1, 1, 1), tm(1, 0, 1), tm(1, 1, 5), l[0], l[len(l)-1]} {
			if got, err := timer.Set(l, x); err != api.ErrBad || got != nil {
				t.Fatalf("Set(%s; %v) is %s, %d", short(l), x, short(got), err)
			}
		}
	}
	for _, l := range append(messy(), some(65), dense(65), disordered()[0], doubled()[0], doubled()[3]) {
		for _, x := range append(badTimers(tm(5, 3, 2)), tm(5, 3, 2), l[0], l[1]) {
			checkErr(t, "Set into what is not fit", checkSet(t, l, x), api.ErrBad)
		}
	}
}

// TestSetOfEach is of P16.2 and P16.3: into every list of up to three timers
// that have small numbers, every timer that has.
func TestSetOfEach(t *testing.T) {
	var small []api.Timer
	for at := range 3 {
		for saga := 1; saga <= 2; saga++ {
			for kind := 1; kind <= 2; kind++ {
				small = append(small, tm(at, saga, kind))
			}
		}
	}
	fit := 0
	var all func(l []api.Timer)
	all = func(l []api.Timer) {
		if !wantFit(l) {
			return
		}
		fit++
		for _, x := range small {
			checkErr(t, "Set", checkSet(t, l, x), api.OK)
		}
		for _, x := range small {
			all(append(l[:len(l):len(l)], x))
		}
	}
	all(nil)
	// Each of four Sagas and Kinds is not there, or at one of three times.
	if fit != 4*4*4*4 {
		t.Errorf("fit are %d lists", fit)
	}
}
