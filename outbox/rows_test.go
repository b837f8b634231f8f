package outbox_test

import (
	"cmp"
	"slices"
	"testing"

	"drayman/api"
	"drayman/outbox"
)

// chances makes the same row of numbers, each below n, of each seed.
func chances(seed int) func(n int) int {
	x := uint64(seed)*2654435761 + 12345
	return func(n int) int {
		x = x*6364136223846793005 + 1442695040888963407
		return int(x>>33) % n
	}
}

// inOrder are entries by their Ids.
func inOrder(there map[int]api.Entry) []api.Entry {
	var l []api.Entry
	for _, x := range there {
		l = append(l, x)
	}
	slices.SortFunc(l, func(x, y api.Entry) int { return cmp.Compare(x.Id, y.Id) })
	return l
}

// checkAll holds all that can be asked of a list against a map of the entry that
// each saga must have.
func checkAll(t *testing.T, l []api.Entry, there map[int]api.Entry, sagas []int) {
	t.Helper()
	want := inOrder(there)
	if !outbox.Fit(l) || !slices.Equal(l, want) {
		t.Fatalf("%s is not fit, or not %s", short(l), short(want))
	}
	for _, saga := range sagas {
		last, is := there[saga]
		if got, ok := outbox.Find(l, saga); ok != is || got != last {
			t.Fatalf("Find(%s; %d) is %v, %t; want %v, %t", short(l), saga, got, ok, last, is)
		}
	}
	for _, x := range want {
		for _, cursor := range []int{x.Id - 1, x.Id} {
			got := outbox.Since(l, cursor)
			for _, y := range want {
				if slices.Contains(got, y) != (y.Id > cursor) {
					t.Fatalf("since %d of %s is %s", cursor, short(l), short(got))
				}
			}
		}
	}
}

// after is the list behind an act: the one that was answered, where the one that
// was handed in is spoilt when it has been seen to be as it was.
func after(t *testing.T, l, before, got []api.Entry) []api.Entry {
	t.Helper()
	if !slices.Equal(l, before) {
		t.Fatalf("%s is %s now", short(before), short(l))
	}
	spoil(l)
	return got
}

// rowPut puts an entry as one act of a row, and answers the list behind it.
func rowPut(t *testing.T, done map[string]int, l []api.Entry, there map[int]api.Entry, x api.Entry) []api.Entry {
	t.Helper()
	before := slices.Clone(l)
	got, err := outbox.Put(l, x)
	_, is := there[x.Saga]
	late := slices.ContainsFunc(inOrder(there), func(y api.Entry) bool { return y.Id >= x.Id })
	want, what := api.OK, "put"
	switch {
	case late:
		want, what = api.ErrOrder, "late"
	case !is && len(there) == full:
		want, what = api.ErrFull, "full"
	case is:
		what = "anew"
	}
	done[what]++
	checkErr(t, "Put", err, want)
	if err != api.OK {
		if got != nil || !slices.Equal(l, before) {
			t.Fatalf("%s is %s, and beside an error stands %s", short(before), short(l), short(got))
		}
		return l
	}
	there[x.Saga] = x
	return after(t, l, before, got)
}

// rowDrop drops a saga's entry as one act of a row, and answers the list behind
// it.
func rowDrop(t *testing.T, done map[string]int, l []api.Entry, there map[int]api.Entry, saga int) []api.Entry {
	t.Helper()
	before := slices.Clone(l)
	got := outbox.Drop(l, saga)
	if _, is := there[saga]; is {
		done["dropped"]++
	} else {
		done["none"]++
	}
	delete(there, saga)
	return after(t, l, before, got)
}

// TestRows is of P17.3: long rows of entries that are put and dropped. What must
// be there is kept apart; what is refused changes nothing.
func TestRows(t *testing.T) {
	done := map[string]int{}
	for seed := range 40 {
		chance := chances(seed)
		sagas := []int{1, 2, 3, 5, 8, 13, 1 << 20, 1<<32 + 1, most - 1, most}
		for i := range 8 * (seed % 3) {
			sagas = append(sagas, 1000+i)
		}
		var l []api.Entry
		there := map[int]api.Entry{}
		next := []int{1, 1 << 32, most - 2000}[seed%3]
		// The lists are now short, now full.
		puts := 9 + seed%4*4
		for range 500 {
			saga := sagas[chance(len(sagas))]
			if chance(24) < puts {
				x := api.Entry{Id: max(next-chance(3), 1), Saga: saga, Step: chance(6), Back: chance(2) == 0, Op: 2 + 2*chance(3), Sum: chance(100), Must: chance(2) == 0}
				l = rowPut(t, done, l, there, x)
				next += chance(4)
			} else {
				l = rowDrop(t, done, l, there, saga)
			}
			checkAll(t, l, there, sagas)
		}
	}
	for _, what := range []string{"put", "anew", "late", "full", "none", "dropped"} {
		if done[what] < 300 {
			t.Errorf("only %d acts of 20000 were %s", done[what], what)
		}
	}
}

// TestSent is of P17.3: entries whose Ids rise are put and dropped, and now and
// then all that came since the last one sent are sent: each one just once, but
// those that went before, and in order.
func TestSent(t *testing.T) {
	for seed := range 60 {
		chance := chances(seed)
		var l, sent, want []api.Entry
		there := map[int]api.Entry{}
		cursor := 0
		for id := 1; id < 300; id++ {
			saga := 1 + chance(16)
			l = rowPut(t, map[string]int{}, l, there, api.Entry{Id: 3 * id, Saga: saga, Op: 4, Sum: chance(9)})
			if chance(3) == 0 {
				l = rowDrop(t, map[string]int{}, l, there, 1+chance(16))
			}
			if chance(1+seed%7) > 0 {
				continue
			}
			for _, x := range inOrder(there) {
				if x.Id > cursor {
					want = append(want, x)
				}
			}
			since := outbox.Since(l, cursor)
			sent = append(sent, since...)
			if len(since) > 0 {
				cursor = since[len(since)-1].Id
			}
			if again := outbox.Since(l, cursor); len(again) != 0 {
				t.Fatalf("sent twice are %s", short(again))
			}
		}
		if len(sent) < 20 || !slices.Equal(sent, want) {
			t.Fatalf("sent are %s, not %s", short(sent), short(want))
		}
	}
}

// TestLastOfEachSaga is of P17.3: in whatever order sagas are put, each has its
// last entry, and they stand in the order in which these were put.
func TestLastOfEachSaga(t *testing.T) {
	// Each row is six sagas of three, by the digits of a number in base three.
	for row := range 729 {
		var l []api.Entry
		last := map[int]api.Entry{}
		for i, n := 1, row; i <= 6; i, n = i+1, n/3 {
			x := api.Entry{Id: 2 * i, Saga: 1 + n%3, Step: i - 1, Op: 2 + i%3*2, Sum: row}
			l, _ = outbox.Put(l, x)
			last[x.Saga] = x
			checkAll(t, l, last, []int{0, 1, 2, 3, 4})
			for cursor := range 2 * i {
				if since := outbox.Since(l, cursor); since[len(since)-1] != x {
					t.Fatalf("since %d of %s is %s", cursor, short(l), short(since))
				}
			}
		}
	}
}

// TestBranches is of P17.3: lists that come of one do not touch each other,
// whatever is put or dropped.
func TestBranches(t *testing.T) {
	for many := 1; many < 16; many++ {
		for _, x := range some(many) {
			l := some(many)
			a, _ := outbox.Put(l, en(5000, 7777))
			b, _ := outbox.Put(l, en(5001, 8888))
			c, _ := outbox.Put(a, en(6000, x.Saga))
			d, _ := outbox.Put(a, en(6001, 8888))
			e := outbox.Drop(l, x.Saga)
			f := outbox.Drop(a, 7777)
			lists := [][]api.Entry{l, a, b, c, d, e, f, outbox.Since(a, 0), outbox.Since(a, x.Id), outbox.Drop(a, 0)}
			var before [][]api.Entry
			for _, y := range lists {
				before = append(before, slices.Clone(y))
			}
			for i, y := range lists {
				spoil(y)
				for j, z := range lists[i+1:] {
					if !slices.Equal(z, before[i+1+j]) {
						t.Fatalf("lists of one list share memory: %s", short(z))
					}
				}
			}
		}
	}
}

// TestExamples is of the chapter's examples.
func TestExamples(t *testing.T) {
	l, err := outbox.Put(nil, en(1, 5))
	checkErr(t, "Put of 1 for saga 5", err, api.OK)
	l, err = outbox.Put(l, en(2, 5))
	checkErr(t, "Put of 2 for saga 5", err, api.OK)
	if !slices.Equal(l, []api.Entry{en(2, 5)}) {
		t.Errorf("there are %s", short(l))
	}
	if got := outbox.Since(l, 1); !slices.Equal(got, l) {
		t.Errorf("Since 1 is %s", short(got))
	}
	if got := outbox.Since(l, 2); len(got) != 0 {
		t.Errorf("Since 2 is %s", short(got))
	}
}
