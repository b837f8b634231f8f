package holds_test

import (
	"math"
	"slices"
	"testing"

	"drayman/api"
	"drayman/holds"
)

// laid lays a list into a longer array, and the lines of each hold too, so that
// something lies ahead of them and behind them. It tells whether all of that is
// still as it was.
func laid(l []api.Hold) ([]api.Hold, func() bool) {
	const around = 3
	aroundHolds := slices.Repeat([]api.Hold{hold(-5, -6, "around -7")}, around)
	aroundLines := slices.Repeat(of("around -8"), around)
	array := slices.Concat(aroundHolds, l, aroundHolds)
	var lines, before [][]api.Line
	for i, h := range array {
		x := slices.Concat(aroundLines, h.Lines, aroundLines)
		array[i].Lines = x[around : around+len(h.Lines)]
		lines, before = append(lines, x), append(before, slices.Clone(x))
	}
	arrayBefore := copyOf(array)
	asItWas := func() bool {
		return equal(array, arrayBefore) && slices.EqualFunc(lines, before, slices.Equal)
	}
	return array[around : around+len(l)], asItWas
}

// spoil overwrites a list, its lines, and what lies behind the length of each.
func spoil(l []api.Hold) {
	l = l[:cap(l)]
	for i := range l {
		spoilLines(l[i].Lines)
		l[i] = api.Hold{Saga: -9, Until: -9}
	}
}

// spoilLines overwrites lines, and what lies behind their length.
func spoilLines(l []api.Line) {
	l = l[:cap(l)]
	for i := range l {
		l[i] = api.Line{Sku: "spoilt", N: -9}
	}
}

// checkApart reports lists of an answer that share memory.
func checkApart(t *testing.T, l []api.Hold) {
	t.Helper()
	for i := range l {
		want := copyOf(l)
		spoilLines(l[i].Lines)
		want[i].Lines = l[i].Lines
		if !equal(l, want) {
			t.Fatalf("the lines of hold %d share memory with others: %s", i, short(l))
		}
	}
}

// checkAnswer holds a list and an error against what is wanted. A list must be
// fit, and is no longer what it was behind this.
func checkAnswer(t *testing.T, what string, got []api.Hold, err api.Errno, want []api.Hold, wantErr api.Errno) {
	t.Helper()
	if err != wantErr || !equal(got, want) {
		t.Fatalf("%s is %s, %d; want %s, %d", what, short(got), err, short(want), wantErr)
	}
	if err != api.OK && len(got) > 0 {
		t.Fatalf("%s tells %s beside %d", what, short(got), err)
	}
	if err == api.OK && (!wantFit(got) || !holds.Fit(got) || !holds.Same(got, want)) {
		t.Fatalf("%s is %s, which is not fit", what, short(got))
	}
	checkApart(t, got)
}

// checkMemory reports what a call has changed of the lists that it was handed
// or shares with them. It calls anew, since the lists are spoilt.
func checkMemory(t *testing.T, what string, do func(l, more []api.Hold) []api.Hold, l, more []api.Hold) {
	t.Helper()
	list, listAsItWas := laid(l)
	others, othersAsTheyWere := laid(more)
	got := do(list, others)
	if !listAsItWas() || !othersAsTheyWere() {
		t.Fatalf("%s changed what was handed in", what)
	}
	want := copyOf(got)
	spoil(list)
	spoil(others)
	if !equal(got, want) {
		t.Fatalf("%s answered %s, which is %s when what was handed in is turned", what, short(want), short(got))
	}
	list, listAsItWas = laid(l)
	others, othersAsTheyWere = laid(more)
	spoil(do(list, others))
	if !listAsItWas() || !othersAsTheyWere() {
		t.Fatalf("%s shares memory with what was handed in", what)
	}
}

// wantPut is the reference of Put: error by error, and the list sorted.
func wantPut(l []api.Hold, h api.Hold) ([]api.Hold, api.Errno) {
	if !wantFit(l) {
		return nil, api.ErrBad
	}
	if !wantPossible(h) {
		return nil, api.ErrArg
	}
	if slices.ContainsFunc(l, func(x api.Hold) bool { return x.Saga == h.Saga }) {
		return nil, api.ErrTwice
	}
	if len(l) >= maxSagas {
		return nil, api.ErrFull
	}
	put := append(copyOf(l), copyOf([]api.Hold{h})...)
	slices.SortFunc(put, func(x, y api.Hold) int { return x.Saga - y.Saga })
	return put, api.OK
}

// checkPut holds Put against its reference, and looks at its memory.
func checkPut(t *testing.T, l []api.Hold, h api.Hold) api.Errno {
	t.Helper()
	what := "Put(" + short(l) + "; " + short([]api.Hold{h}) + ")"
	want, wantErr := wantPut(l, h)
	got, err := holds.Put(l, h)
	checkAnswer(t, what, got, err, want, wantErr)
	checkMemory(t, what, func(l, more []api.Hold) []api.Hold {
		got, _ := holds.Put(l, more[0])
		return got
	}, l, []api.Hold{h})
	return err
}

// wantDrop is the reference of Drop.
func wantDrop(l []api.Hold, saga int) ([]api.Hold, api.Errno) {
	if !wantFit(l) {
		return nil, api.ErrBad
	}
	var rest []api.Hold
	for _, h := range l {
		if h.Saga != saga {
			rest = append(rest, h)
		}
	}
	if len(rest) == len(l) {
		return nil, api.ErrNone
	}
	return copyOf(rest), api.OK
}

// checkDrop holds Drop against its reference, and looks at its memory.
func checkDrop(t *testing.T, l []api.Hold, saga int) api.Errno {
	t.Helper()
	what := "Drop(" + short(l) + ")"
	want, wantErr := wantDrop(l, saga)
	got, err := holds.Drop(l, saga)
	checkAnswer(t, what, got, err, want, wantErr)
	checkMemory(t, what, func(l, _ []api.Hold) []api.Hold {
		got, _ := holds.Drop(l, saga)
		return got
	}, l, nil)
	return err
}

// checkErr reports an error that is another than the wanted one.
func checkErr(t *testing.T, what string, got, want api.Errno) {
	t.Helper()
	if got != want {
		t.Errorf("%s is %d, not %d", what, got, want)
	}
}

// TestPut is of P13.2: at each place of a list of each length, ahead of all and
// behind all, next to a hold and far from it.
func TestPut(t *testing.T) {
	for many := range 16 {
		for saga := 1; saga < 10*many+20; saga++ {
			want := api.OK
			if saga%10 == 0 && saga <= 10*many {
				want = api.ErrTwice
			}
			checkErr(t, "Put", checkPut(t, some(many), hold(saga, saga%3, "a 1, tea 2")), want)
		}
		checkErr(t, "Put of Most", checkPut(t, some(many), hold(most, most, "tea 1048576")), api.OK)
	}
	for _, l := range [][]api.Hold{nil, {}, some(3)[:0], some(3)} {
		for _, h := range goodHolds() {
			checkErr(t, "Put", checkPut(t, l, h), api.OK)
		}
	}
}

// TestPutKeepsTheHold is of P13.2: what is put comes as it is, at its place.
func TestPutKeepsTheHold(t *testing.T) {
	l, err := holds.Put([]api.Hold{hold(3, 4, "tea 5"), hold(7, 0, "salt 1, tea 2")}, hold(5, 9, "a 1, b 2, c 3, d 4"))
	if err != api.OK || len(l) != 3 {
		t.Fatalf("Put is %v, %d", l, err)
	}
	for i, h := range []api.Hold{hold(3, 4, "tea 5"), hold(5, 9, "a 1, b 2, c 3, d 4"), hold(7, 0, "salt 1, tea 2")} {
		if !equalHold(l[i], h) {
			t.Errorf("hold %d is %v, not %v", i, l[i], h)
		}
	}
}

// TestPutIntoFull is of P13.2: a list of sixteen has no room, at no place.
func TestPutIntoFull(t *testing.T) {
	full := some(16)
	for saga := 1; saga < 180; saga++ {
		want := api.ErrFull
		if saga%10 == 0 && saga <= 160 {
			want = api.ErrTwice
		}
		checkErr(t, "Put into a full list", checkPut(t, full, hold(saga, 0, "tea 1")), want)
	}
	checkErr(t, "Put of Most", checkPut(t, full, hold(most, 0, "tea 1")), api.ErrFull)
	checkErr(t, "Put of the sixteenth", checkPut(t, full[:15], full[15]), api.OK)
	checkErr(t, "Put of the sixteenth", checkPut(t, full[1:], full[0]), api.OK)
}

// TestPutOfBad is of P13.2 and rule 0.2: a hold that may not be, for each
// reason, into lists of each length, also where its Saga has a hold or there is
// no room.
func TestPutOfBad(t *testing.T) {
	for _, many := range []int{0, 1, 2, 15, 16} {
		for _, saga := range []int{5, 10, 20, 160, 165, most} {
			for _, h := range badHolds(saga) {
				checkErr(t, "Put of a bad hold", checkPut(t, some(many), h), api.ErrArg)
			}
		}
	}
}

// TestPutIntoUnfit is of P13.2 and rule 0.2: a list that is not fit comes ahead
// of all that may be wrong with the hold, and of one that is right.
func TestPutIntoUnfit(t *testing.T) {
	for i, l := range unfit() {
		bad := badHolds(5)
		for _, h := range []api.Hold{hold(5, 0, "tea 1"), hold(10, 0, "tea 1"), hold(most, 0, "tea 1"), bad[0], bad[i%len(bad)], l[0], l[len(l)-1]} {
			if _, err := holds.Put(l, h); err != api.ErrBad {
				t.Fatalf("Put(%s, %v) is %d", short(l), h, err)
			}
		}
		checkErr(t, "Put into an unfit list", checkPut(t, l, hold(165, 0, "tea 1")), api.ErrBad)
	}
}

// TestErrorsInOrder is of P13.2 and rule 0.2: of each pair of errors, the one
// that the chapter names first.
func TestErrorsInOrder(t *testing.T) {
	full := some(16)
	unfitFull := some(16)
	unfitFull[15].Until = -1
	tooMany := some(17)
	tea := of("tea 1")
	for _, c := range []struct {
		name string
		l    []api.Hold
		h    api.Hold
		want api.Errno
	}{
		{"arg", full[15:], api.Hold{Saga: 5}, api.ErrArg},
		{"bad, arg", unfitFull[15:], api.Hold{Saga: 5}, api.ErrBad},
		{"bad, twice", unfitFull[14:], hold(150, 0, "tea 1"), api.ErrBad},
		{"bad, twice, of the bad hold", unfitFull[15:], hold(160, 0, "tea 1"), api.ErrBad},
		{"bad, full", unfitFull, hold(5, 0, "tea 1"), api.ErrBad},
		{"bad for its length, full", tooMany, hold(5, 0, "tea 1"), api.ErrBad},
		{"bad, twice, full", unfitFull, hold(10, 0, "tea 1"), api.ErrBad},
		{"bad, arg, twice, full", unfitFull, api.Hold{Saga: 10}, api.ErrBad},
		{"arg, twice", full[:3], api.Hold{Saga: 20}, api.ErrArg},
		{"arg, twice", full[:3], api.Hold{Saga: 20, Lines: tea, Until: -1}, api.ErrArg},
		{"arg, full", full, api.Hold{Saga: 5, Lines: tea, Until: most + 1}, api.ErrArg},
		{"arg, full", full, api.Hold{Saga: 0, Lines: tea}, api.ErrArg},
		{"arg, full", full, api.Hold{Saga: most + 1, Lines: tea}, api.ErrArg},
		{"arg, twice, full", full, api.Hold{Saga: 160, Lines: of("tea 0")}, api.ErrArg},
		{"twice, full", full, hold(10, 0, "tea 1"), api.ErrTwice},
		{"twice, full", full, hold(160, 5, "salt 3"), api.ErrTwice},
		{"twice, full, the same hold", full, full[7], api.ErrTwice},
		{"twice", full[:15], full[7], api.ErrTwice},
		{"full", full, hold(75, 0, "tea 1"), api.ErrFull},
	} {
		checkErr(t, "Put: "+c.name, checkPut(t, c.l, c.h), c.want)
	}
	checkErr(t, "Drop: bad, none", checkDrop(t, unfitFull, 5), api.ErrBad)
	checkErr(t, "Drop: bad, none", checkDrop(t, tooMany, 5), api.ErrBad)
	checkErr(t, "Drop: bad, none", checkDrop(t, unfitFull[15:], math.MinInt), api.ErrBad)
}

// TestDrop is of P13.2: each hold of lists of each length, and sagas that have
// none: ahead of all, behind all and between two.
func TestDrop(t *testing.T) {
	for many := range 17 {
		for saga := -1; saga < 10*many+20; saga++ {
			want := api.ErrNone
			if saga >= 10 && saga%10 == 0 && saga <= 10*many {
				want = api.OK
			}
			checkErr(t, "Drop", checkDrop(t, some(many), saga), want)
		}
		for _, saga := range badSagas() {
			checkErr(t, "Drop", checkDrop(t, some(many), saga), api.ErrNone)
		}
		checkErr(t, "Drop of Most", checkDrop(t, some(many), most), api.ErrNone)
	}
	for _, l := range [][]api.Hold{nil, {}, some(3)[:0]} {
		checkErr(t, "Drop from none", checkDrop(t, l, 1), api.ErrNone)
		checkErr(t, "Drop from none", checkDrop(t, l, 0), api.ErrNone)
	}
	for _, h := range goodHolds() {
		checkErr(t, "Drop of the last", checkDrop(t, []api.Hold{h}, h.Saga), api.OK)
		checkErr(t, "Drop of one beside it", checkDrop(t, []api.Hold{h}, h.Saga+1), api.ErrNone)
		checkErr(t, "Drop of one beside it", checkDrop(t, []api.Hold{h}, h.Saga-1), api.ErrNone)
	}
}

// TestDropFromUnfit is of P13.2: a list that is not fit, with a saga that has a
// hold in it or none.
func TestDropFromUnfit(t *testing.T) {
	for _, l := range unfit() {
		for _, saga := range []int{0, 5, 10, 160, -1, most, most + 1, l[0].Saga, l[len(l)-1].Saga} {
			if got, err := holds.Drop(l, saga); err != api.ErrBad || len(got) > 0 {
				t.Fatalf("Drop(%s, %d) is %s, %d", short(l), saga, short(got), err)
			}
		}
		checkErr(t, "Drop from an unfit list", checkDrop(t, l, l[len(l)/2].Saga), api.ErrBad)
	}
	long := some(1 << 16)
	if got, err := holds.Drop(long, 10); err != api.ErrBad || got != nil {
		t.Errorf("Drop from a long list is %s, %d", short(got), err)
	}
	if got, err := holds.Put(long, hold(5, 0, "tea 1")); err != api.ErrBad || got != nil {
		t.Errorf("Put into a long list is %s, %d", short(got), err)
	}
}

// TestSharedLines is of rule 0.5 and of P13.2: the holds that are handed in have
// their lines from one list; those of the answer have lists of their own.
func TestSharedLines(t *testing.T) {
	for many := range 16 {
		tea := append(make([]api.Line, 0, 9), of("salt 1, tea 5")...)
		l := some(many)
		for i := range l {
			l[i].Lines = tea[:1+i%2]
		}
		h := api.Hold{Saga: 5, Lines: tea}
		got, err := holds.Put(l, h)
		want, _ := wantPut(l, h)
		checkAnswer(t, "Put", got, err, want, api.OK)
		if !slices.Equal(tea, of("salt 1, tea 5")) || tea[:9][2] != (api.Line{}) {
			t.Errorf("the lines are %v now", tea[:9])
		}
		for i := range l {
			got, err := holds.Drop(l, l[i].Saga)
			want, _ := wantDrop(l, l[i].Saga)
			checkAnswer(t, "Drop", got, err, want, api.OK)
		}
		if found, is := holds.Find(l, 10); is != (many > 0) || is && &found.Lines[0] == &tea[0] {
			t.Errorf("Find is %v, %t", found, is)
		}
	}
}

// TestExample is of the chapter's examples.
func TestExample(t *testing.T) {
	l, err := holds.Put(nil, hold(1, 5, "tea 3"))
	if err != api.OK || !equal(l, []api.Hold{hold(1, 5, "tea 3")}) {
		t.Fatalf("Put is %v, %d", l, err)
	}
	checkTotal(t, l, "tea", 3)
	checkDue(t, l, 5, 1)
	checkDue(t, l, 4)
}
