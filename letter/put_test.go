package letter_test

import (
	"cmp"
	"slices"
	"testing"

	"drayman/api"
	"drayman/letter"
)

// spoil overwrites a list and what lies behind its length.
func spoil(l []api.Letter) {
	l = l[:cap(l)]
	for i := range l {
		l[i] = le(-9)
	}
}

// checkMemory reports what a call has changed of the list that it was handed or
// shares with it. It calls anew, since the lists are spoilt.
func checkMemory(t *testing.T, what string, l []api.Letter, do func(l []api.Letter) ([]api.Letter, api.Errno)) {
	t.Helper()
	list, asItWas := laid(l)
	got, _ := do(list)
	if !asItWas() {
		t.Fatalf("%s of %s changed what was handed in", what, short(l))
	}
	want := slices.Clone(got)
	spoil(list)
	if !slices.Equal(got, want) {
		t.Fatalf("%s of %s answered %s, which is %s when what was handed in is turned", what, short(l), short(want), short(got))
	}
	list, asItWas = laid(l)
	got, _ = do(list)
	spoil(got)
	if !asItWas() {
		t.Fatalf("%s of %s shares memory with what was handed in", what, short(l))
	}
}

// checkAnswer holds a list and an error against what is wanted: with an error
// nothing, and otherwise a fit list.
func checkAnswer(t *testing.T, what string, got []api.Letter, err api.Errno, want []api.Letter, wantErr api.Errno) {
	t.Helper()
	if err != wantErr || !slices.Equal(got, want) {
		t.Fatalf("%s is %s, %d; want %s, %d", what, short(got), err, short(want), wantErr)
	}
	if err != api.OK && got != nil {
		t.Fatalf("%s tells %s beside %d", what, short(got), err)
	}
	if err == api.OK && (!wantFit(got) || !letter.Fit(got)) {
		t.Fatalf("%s is %s, which is not fit", what, short(got))
	}
}

// wantPut is the reference of Put: error by error, and the list sorted.
func wantPut(l []api.Letter, x api.Letter) ([]api.Letter, api.Errno) {
	if !wantFit(l) {
		return nil, api.ErrBad
	}
	if !wantValid(x) {
		return nil, api.ErrArg
	}
	for _, y := range l {
		if y.Saga == x.Saga {
			return nil, api.ErrTwice
		}
	}
	if len(l) == full {
		return nil, api.ErrFull
	}
	put := append(slices.Clone(l), x)
	slices.SortFunc(put, func(x, y api.Letter) int { return cmp.Compare(x.Saga, y.Saga) })
	return put, api.OK
}

// checkPut holds Put against its reference, looks at its memory, and takes back
// what was put.
func checkPut(t *testing.T, l []api.Letter, x api.Letter) api.Errno {
	t.Helper()
	what := "Put(" + short(l) + "; " + short([]api.Letter{x}) + ")"
	want, wantErr := wantPut(l, x)
	got, err := letter.Put(l, x)
	checkAnswer(t, what, got, err, want, wantErr)
	if err == api.OK {
		if found, is := letter.Find(got, x.Saga); !is || found != x {
			t.Fatalf("%s is %s, where it is not found", what, short(got))
		}
		before, err := letter.Drop(got, x.Saga)
		checkAnswer(t, "Drop behind "+what, before, err, l, api.OK)
	}
	checkMemory(t, "Put", l, func(l []api.Letter) ([]api.Letter, api.Errno) { return letter.Put(l, x) })
	return err
}

// checkErr holds an error against what is wanted.
func checkErr(t *testing.T, what string, err, want api.Errno) {
	t.Helper()
	if err != want {
		t.Fatalf("%s is %d, not %d", what, err, want)
	}
}

// TestPut is of P19.2: sagas below, between and above those that are there,
// written out.
func TestPut(t *testing.T) {
	var l []api.Letter
	for _, c := range []struct {
		put  int
		want []api.Letter
	}{
		{5, []api.Letter{le(5)}},
		{9, []api.Letter{le(5), le(9)}},
		{1, []api.Letter{le(1), le(5), le(9)}},
		{7, []api.Letter{le(1), le(5), le(7), le(9)}},
		{most, []api.Letter{le(1), le(5), le(7), le(9), le(most)}},
		{1 << 32, []api.Letter{le(1), le(5), le(7), le(9), le(1 << 32), le(most)}},
		{2, []api.Letter{le(1), le(2), le(5), le(7), le(9), le(1 << 32), le(most)}},
		{most - 1, []api.Letter{le(1), le(2), le(5), le(7), le(9), le(1 << 32), le(most - 1), le(most)}},
	} {
		checkErr(t, "Put", checkPut(t, l, le(c.put)), api.OK)
		got, err := letter.Put(l, le(c.put))
		if err != api.OK || !slices.Equal(got, c.want) {
			t.Fatalf("Put(%s; saga %d) is %s, %d", short(l), c.put, short(got), err)
		}
		for _, x := range got {
			checkErr(t, "Put of a saga that is there", checkPut(t, got, with(x, func(x *api.Letter) { x.Back = true })), api.ErrTwice)
		}
		l = got
	}
}

// TestPutKeepsLetters is of P19.2: what is put and what was there come whole.
func TestPutKeepsLetters(t *testing.T) {
	a, b, c := api.Letter{Saga: 3, Step: 4, Why: 7, At: 50}, api.Letter{Saga: 5, Step: 2, Back: true, Why: 8, At: 0}, api.Letter{Saga: 8, Why: 7, At: most}
	for _, order := range [][]api.Letter{{a, b, c}, {a, c, b}, {b, a, c}, {b, c, a}, {c, a, b}, {c, b, a}} {
		var l []api.Letter
		for _, x := range order {
			got, err := letter.Put(l, x)
			checkErr(t, "Put", err, api.OK)
			l = got
		}
		if !slices.Equal(l, []api.Letter{a, b, c}) {
			t.Errorf("behind %s there is %s", short(order), short(l))
		}
	}
}

// TestPutIntoNone is of P19.2: into no letters, with each field at its edges.
func TestPutIntoNone(t *testing.T) {
	for _, none := range [][]api.Letter{nil, {}, make([]api.Letter, 0, 20), some(3)[:0]} {
		for _, saga := range goodSagas() {
			for _, at := range goodAts() {
				for step := range 6 {
					x := api.Letter{Saga: saga, Step: step, Back: step%2 == 0, Why: 7 + step/2%2, At: at}
					checkErr(t, "Put into none", checkPut(t, none, x), api.OK)
				}
			}
		}
		checkErr(t, "Put into none", checkPut(t, none, api.Letter{Saga: 1, Why: 7}), api.OK)
		checkErr(t, "Put of nothing into none", checkPut(t, none, api.Letter{}), api.ErrArg)
	}
}

// TestPutAtEachPlace is of P19.2: into lists of each length, each saga that is
// there and each one beside it, ahead of all and behind all.
func TestPutAtEachPlace(t *testing.T) {
	for many := range 17 {
		for _, l := range kinds(many) {
			there, rest := 0, 0
			for _, saga := range sagasFor(l) {
				switch checkPut(t, l, with(le(saga), func(x *api.Letter) { x.At = many })) {
				case api.ErrTwice:
					there++
				case api.OK, api.ErrFull:
					rest++
				}
			}
			if there != many || rest == 0 {
				t.Fatalf("in %s are %d, and %d can be put", short(l), there, rest)
			}
		}
	}
}

// TestPutIntoFull is of P19.2: where there are 16 letters, a saga that is there
// comes ahead of the room that is missing; where there are 15, all have room.
func TestPutIntoFull(t *testing.T) {
	for saga := 1; saga < 180; saga++ {
		there := saga%10 == 0 && saga <= 160
		want, beside := api.ErrFull, api.OK
		if there {
			want, beside = api.ErrTwice, api.ErrTwice
		}
		checkErr(t, "Put into a full list", checkPut(t, some(16), le(saga)), want)
		if saga != 160 {
			checkErr(t, "Put where one has room", checkPut(t, some(15), le(saga)), beside)
		}
		if saga != 10 {
			checkErr(t, "Put where one has room", checkPut(t, some(16)[1:], le(saga)), beside)
		}
	}
	for i, x := range some(16) {
		checkErr(t, "Put of the same letter", checkPut(t, some(16), x), api.ErrTwice)
		without := slices.Delete(some(16), i, i+1)
		checkErr(t, "Put of the sixteenth", checkPut(t, without, x), api.OK)
		checkErr(t, "Put of another as the sixteenth", checkPut(t, without, le(most)), api.OK)
	}
	for _, saga := range []int{161, 1 << 32, 1<<32 + 10, most - 1, most} {
		checkErr(t, "Put into a full list", checkPut(t, some(16), le(saga)), api.ErrFull)
	}
}

// TestPutOfInvalid is of P19.2: each reason for which a letter is not valid,
// also where its saga is there or nothing has room.
func TestPutOfInvalid(t *testing.T) {
	for _, many := range []int{0, 1, 2, 9, 15, 16} {
		for _, l := range kinds(many) {
			for _, x := range append(l[:min(many, 3):min(many, 3)], le(5), le(most), api.Letter{Saga: 1, Why: 7}) {
				for _, bad := range badLetters(x) {
					checkErr(t, "Put of what is not valid", checkPut(t, l, bad), api.ErrArg)
				}
			}
		}
	}
}

// TestPutIntoUnfit is of P19.2: a list that is not fit comes first of the
// errors, whatever is put.
func TestPutIntoUnfit(t *testing.T) {
	for i, l := range append(unfit(), messy()...) {
		bad := badLetters(le(5))
		for _, x := range []api.Letter{le(5), le(15), le(most), {}, bad[i%len(bad)], le(l[0].Saga), l[len(l)/2], l[len(l)-1]} {
			if got, err := letter.Put(l, x); err != api.ErrBad || got != nil {
				t.Fatalf("Put(%s; %v) is %s, %d", short(l), x, short(got), err)
			}
		}
	}
	for _, l := range slices.Concat(messy(), kinds(17), disordered()[:12]) {
		for _, x := range append(badLetters(le(7)), le(7), l[0], l[1]) {
			checkErr(t, "Put into what is not fit", checkPut(t, l, x), api.ErrBad)
		}
	}
}

// TestErrorsInOrder is of P19.2 and rule 0.2: of several errors, the one that
// the chapter names first.
func TestErrorsInOrder(t *testing.T) {
	unfitFull := some(16)
	unfitFull[15].At = -1
	for _, c := range []struct {
		what string
		l    []api.Letter
		x    api.Letter
		want api.Errno
	}{
		{"bad", unfitFull[15:], le(5), api.ErrBad},
		{"bad, arg", unfitFull[15:], api.Letter{Saga: 5}, api.ErrBad},
		{"bad, twice", unfitFull[12:], le(150), api.ErrBad},
		{"bad, twice, of the letter that is not valid", unfitFull[15:], le(160), api.ErrBad},
		{"bad, full", unfitFull, le(5), api.ErrBad},
		{"bad for the length, full", some(17), le(5), api.ErrBad},
		{"bad, twice, full", unfitFull, le(10), api.ErrBad},
		{"bad, arg, twice, full", unfitFull, api.Letter{Saga: 10}, api.ErrBad},
		{"arg", some(3), api.Letter{Saga: 5}, api.ErrArg},
		{"arg, twice", some(3), api.Letter{Saga: 20}, api.ErrArg},
		{"arg, full", some(16), api.Letter{Saga: most + 1, Why: 7}, api.ErrArg},
		{"arg, full", some(16), api.Letter{Saga: 5, Step: 6, Why: 7}, api.ErrArg},
		{"arg, twice, full", some(16), api.Letter{Saga: 160, Why: 7, At: -1}, api.ErrArg},
		{"twice", some(15), some(15)[7], api.ErrTwice},
		{"twice, full", some(16), le(10), api.ErrTwice},
		{"twice, full", some(16), le(80), api.ErrTwice},
		{"twice, full", some(16), le(160), api.ErrTwice},
		{"full", some(16), le(75), api.ErrFull},
	} {
		checkErr(t, "Put: "+c.what, checkPut(t, c.l, c.x), c.want)
	}
	checkErr(t, "Drop: bad, none", checkDrop(t, unfitFull, 5), api.ErrBad)
	checkErr(t, "Drop: bad, none", checkDrop(t, some(17), 5), api.ErrBad)
	checkErr(t, "Drop: bad", checkDrop(t, unfitFull, 10), api.ErrBad)
	checkErr(t, "Drop: none", checkDrop(t, some(16), 5), api.ErrNone)
}
