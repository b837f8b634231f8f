package outbox_test

import (
	"slices"
	"testing"

	"drayman/api"
	"drayman/outbox"
)

// wantPut is the reference of Put: error by error, and the entry behind those of
// other sagas.
func wantPut(l []api.Entry, x api.Entry) ([]api.Entry, api.Errno) {
	if !wantFit(l) {
		return nil, api.ErrBad
	}
	if !wantValid(x) {
		return nil, api.ErrArg
	}
	for _, y := range l {
		if y.Id >= x.Id {
			return nil, api.ErrOrder
		}
	}
	others := without(l, x.Saga)
	if len(others) == full {
		return nil, api.ErrFull
	}
	return append(others, x), api.OK
}

// checkPut holds Put against its reference, and looks at what comes of it and at
// its memory.
func checkPut(t *testing.T, l []api.Entry, x api.Entry) api.Errno {
	t.Helper()
	want, wantErr := wantPut(l, x)
	got, err := outbox.Put(l, x)
	if err != wantErr || !slices.Equal(got, want) {
		t.Fatalf("Put(%s; %v) is %s, %d; want %s, %d", short(l), x, short(got), err, short(want), wantErr)
	}
	if err != api.OK {
		if got != nil {
			t.Fatalf("Put(%s; %v) tells %s beside %d", short(l), x, short(got), err)
		}
	} else {
		checkThere(t, l, got, x)
	}
	checkMemory(t, "Put", l, func(l []api.Entry) []api.Entry {
		got, _ := outbox.Put(l, x)
		return got
	})
	return err
}

// checkThere reports whether what came of Put is fit and has what was put, by
// its saga and behind each number below it.
func checkThere(t *testing.T, l, got []api.Entry, x api.Entry) {
	t.Helper()
	if found, is := outbox.Find(got, x.Saga); !is || found != x || !wantFit(got) || !outbox.Fit(got) {
		t.Fatalf("Put(%s; %v) is %s, which is not fit or does not have it", short(l), x, short(got))
	}
	for _, cursor := range append(cursorsFor(l), x.Id-1) {
		since := outbox.Since(got, cursor)
		if cursor < x.Id && (len(since) == 0 || since[len(since)-1] != x) {
			t.Fatalf("since %d of %s is %s, without %v", cursor, short(got), short(since), x)
		}
	}
	if since := outbox.Since(got, x.Id); len(since) != 0 {
		t.Fatalf("behind the last one, %v, is %s", x, short(since))
	}
}

// checkErr holds an error against what is wanted.
func checkErr(t *testing.T, what string, err, want api.Errno) {
	t.Helper()
	if err != want {
		t.Fatalf("%s is %d, not %d", what, err, want)
	}
}

// TestPut is of P17.2: new sagas, and sagas first, in the midst and last,
// written out.
func TestPut(t *testing.T) {
	var l []api.Entry
	for _, x := range []struct {
		put  api.Entry
		want []api.Entry
	}{
		{en(1, 5), []api.Entry{en(1, 5)}},
		{en(2, 5), []api.Entry{en(2, 5)}},
		{en(3, 9), []api.Entry{en(2, 5), en(3, 9)}},
		{en(4, 1), []api.Entry{en(2, 5), en(3, 9), en(4, 1)}},
		{en(7, 5), []api.Entry{en(3, 9), en(4, 1), en(7, 5)}},
		{en(8, 4), []api.Entry{en(3, 9), en(4, 1), en(7, 5), en(8, 4)}},
		{en(9, 1), []api.Entry{en(3, 9), en(7, 5), en(8, 4), en(9, 1)}},
		{en(20, 1), []api.Entry{en(3, 9), en(7, 5), en(8, 4), en(20, 1)}},
		{en(1<<32, 8), []api.Entry{en(3, 9), en(7, 5), en(8, 4), en(20, 1), en(1<<32, 8)}},
		{en(1<<32+1, 3), []api.Entry{en(3, 9), en(7, 5), en(8, 4), en(20, 1), en(1<<32, 8), en(1<<32+1, 3)}},
		{en(most-1, most), []api.Entry{en(3, 9), en(7, 5), en(8, 4), en(20, 1), en(1<<32, 8), en(1<<32+1, 3), en(most-1, most)}},
		{en(most, 1), []api.Entry{en(3, 9), en(7, 5), en(8, 4), en(1<<32, 8), en(1<<32+1, 3), en(most-1, most), en(most, 1)}},
	} {
		checkPut(t, l, x.put)
		got, err := outbox.Put(l, x.put)
		checkErr(t, "Put", err, api.OK)
		if !slices.Equal(got, x.want) {
			t.Fatalf("Put(%s; %v) is %s", short(l), x.put, short(got))
		}
		l = got
	}
	for _, id := range []int{1, 2, 3, 20, most - 1, most} {
		for _, saga := range []int{1, 9, 2, most} {
			checkErr(t, "Put behind the greatest Id", checkPut(t, l, en(id, saga)), api.ErrOrder)
		}
	}
}

// TestPutIntoNone is of P17.2: into no entries, with each number at its edges.
func TestPutIntoNone(t *testing.T) {
	for _, none := range [][]api.Entry{nil, {}, make([]api.Entry, 0, 20), some(3)[:0]} {
		for _, n := range goodIds() {
			for _, op := range []int{2, 4, 6} {
				for step := range 6 {
					x := api.Entry{Id: n, Saga: most + 1 - n, Step: step, Back: step > 2, Op: op, Sum: n, Must: op > 2}
					checkErr(t, "Put into none", checkPut(t, none, x), api.OK)
				}
			}
		}
		checkErr(t, "Put into none", checkPut(t, none, api.Entry{Id: 1, Saga: 1, Op: 2}), api.OK)
	}
}

// TestPutOfEachSaga is of P17.2: of a new saga and of each that is there, with
// Ids below, at and above the last one's.
func TestPutOfEachSaga(t *testing.T) {
	for many := 1; many < 17; many++ {
		for _, l := range [][]api.Entry{some(many), dense(many)} {
			last := l[many-1].Id
			sagas := []int{7777, 1 << 32, most}
			for _, x := range l {
				sagas = append(sagas, x.Saga)
			}
			for i, saga := range sagas {
				room := api.OK
				if many == full && i < 3 {
					room = api.ErrFull
				}
				for _, id := range []int{last + 1, last + 2, 1<<32 + last, most - 1, most} {
					checkErr(t, "Put above the last Id", checkPut(t, l, en(id, saga)), room)
				}
				for _, id := range goodIds() {
					checkPut(t, l, en(id, saga))
				}
				for _, x := range l {
					checkErr(t, "Put at an Id", checkPut(t, l, en(x.Id, saga)), api.ErrOrder)
					checkPut(t, l, en(x.Id+1, saga))
				}
				checkErr(t, "Put of the least Id", checkPut(t, l, en(1, saga)), api.ErrOrder)
			}
		}
	}
}

// TestPutOfTheLastSaga is of P17.2: the previous entry of the saga is the last
// one and goes, but an Id not above its own comes too late all the same.
func TestPutOfTheLastSaga(t *testing.T) {
	l := []api.Entry{en(3, 1), en(6, 2)}
	for id := 1; id < 7; id++ {
		checkErr(t, "Put of the last saga", checkPut(t, l, en(id, 2)), api.ErrOrder)
		checkErr(t, "Put of the first saga", checkPut(t, l, en(id, 1)), api.ErrOrder)
		checkErr(t, "Put of the only saga", checkPut(t, l[1:], en(id, 2)), api.ErrOrder)
	}
	checkErr(t, "Put of the last saga", checkPut(t, l, en(7, 2)), api.OK)
	// The same entry once more is not above itself.
	checkErr(t, "Put of the last entry", checkPut(t, l, l[1]), api.ErrOrder)
	top := []api.Entry{en(most, 4)}
	checkErr(t, "Put at the greatest Id", checkPut(t, top, top[0]), api.ErrOrder)
	checkErr(t, "Put at the greatest Id", checkPut(t, top, en(most, 5)), api.ErrOrder)
}

// TestPutFull is of P17.2: where there are 16 entries, a saga that is not there
// has no room, and each that is there has; where there are 15, all have.
func TestPutFull(t *testing.T) {
	for _, l := range [][]api.Entry{some(16), dense(16)} {
		last := l[15].Id
		for _, saga := range []int{17, 999, 1001, 1 << 32, most} {
			for _, id := range []int{last + 1, most} {
				checkErr(t, "Put into a full list", checkPut(t, l, en(id, saga)), api.ErrFull)
				checkErr(t, "Put where one has room", checkPut(t, l[:15], en(id, saga)), api.OK)
				checkErr(t, "Put where one has room", checkPut(t, l[1:], en(id, saga)), api.OK)
			}
			// What comes too late does so in a full list as well.
			checkErr(t, "Put too late into a full list", checkPut(t, l, en(last, saga)), api.ErrOrder)
			checkErr(t, "Put too late into a full list", checkPut(t, l, en(1, saga)), api.ErrOrder)
		}
		for i, x := range l {
			got, err := outbox.Put(l, en(last+1, x.Saga))
			want := append(slices.Delete(slices.Clone(l), i, i+1), en(last+1, x.Saga))
			if err != api.OK || !slices.Equal(got, want) {
				t.Fatalf("Put of saga %d into a full list is %s, %d", x.Saga, short(got), err)
			}
		}
	}
}

// TestPutOfInvalid is of P17.2: each reason for which an entry is not valid,
// with lists of each kind, also where it would come too late or have no room.
func TestPutOfInvalid(t *testing.T) {
	least, greatest := api.Entry{Id: 1, Saga: 1, Op: 2}, api.Entry{Id: most, Saga: most, Step: 5, Back: true, Op: 6, Sum: most, Must: true}
	for _, many := range []int{0, 1, 2, 9, 15, 16} {
		l := some(many)
		for _, x := range append(l, least, greatest, en(5000, 7777)) {
			for _, bad := range badEntries(x) {
				checkErr(t, "Put of what is not valid", checkPut(t, l, bad), api.ErrArg)
			}
		}
	}
}

// TestPutIntoUnfit is of P17.2: a list that is not fit comes first of the
// errors, whatever is put.
func TestPutIntoUnfit(t *testing.T) {
	for _, l := range unfit() {
		for _, x := range []api.Entry{en(5000, 7777), en(1, 7777), en(0, 1), l[0], en(most, l[0].Saga), en(most, l[len(l)-1].Saga)} {
			if got, err := outbox.Put(l, x); err != api.ErrBad || got != nil {
				t.Fatalf("Put(%s; %v) is %s, %d", short(l), x, short(got), err)
			}
		}
	}
	for _, l := range append(messy(), some(17), dense(17), disordered()[0], doubled()[0], doubled()[3]) {
		for _, x := range append(badEntries(en(5000, 3)), en(5000, 3), l[0], l[1]) {
			checkErr(t, "Put into what is not fit", checkPut(t, l, x), api.ErrBad)
		}
	}
}

// TestPutOfEach is of P17.2 and P17.3: into every list that has small numbers,
// every entry that has.
func TestPutOfEach(t *testing.T) {
	var small []api.Entry
	for id := 1; id <= 4; id++ {
		for saga := 1; saga <= 3; saga++ {
			small = append(small, en(id, saga))
		}
	}
	fit, put := 0, 0
	var all func(l []api.Entry)
	all = func(l []api.Entry) {
		if !wantFit(l) {
			return
		}
		fit++
		for _, x := range small {
			if checkPut(t, l, x) == api.OK {
				put++
			}
		}
		for _, x := range small {
			all(append(l[:len(l):len(l)], x))
		}
	}
	all(nil)
	// Some of four Ids, each of another one of three sagas. Of each list that ends
	// with some Id, each saga can be put at each Id above.
	if fit != 1+4*3+6*6+4*6 || put != 3*(4*1+3*3+2*(3+6)+1*(3+12+6)) {
		t.Errorf("fit are %d lists, and %d were put into", fit, put)
	}
}
