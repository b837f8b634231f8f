package holds_test

import (
	"slices"
	"testing"

	"drayman/api"
	"drayman/holds"
)

// chances makes the same row of numbers, each below n, of each seed.
func chances(seed int) func(n int) int {
	x := uint64(seed)*2654435761 + 12345
	return func(n int) int {
		x = x*6364136223846793005 + 1442695040888963407
		return int(x>>33) % n
	}
}

// someHold is a hold that a fit list may have, of a saga that is asked for.
func someHold(chance func(n int) int, saga int) api.Hold {
	h := api.Hold{Saga: saga, Until: []int{0, chance(6), chance(1000), most - chance(2)}[chance(4)]}
	for i, sku := range []string{"a", "b", "salt", "tea", "ß"} {
		if len(h.Lines) < 4 && (i == 4 && len(h.Lines) == 0 || chance(2) == 0) {
			h.Lines = append(h.Lines, api.Line{Sku: sku, N: []int{1 + chance(9), maxQty - chance(3)}[chance(2)]})
		}
	}
	return h
}

// checkAll holds all that can be asked of a list against a map of the holds
// that must be there.
func checkAll(t *testing.T, l []api.Hold, there map[int]api.Hold, sagas []int) {
	t.Helper()
	totals := map[string]int{}
	var present, due []int
	const now = 5
	for _, saga := range sagas {
		want, is := there[saga]
		got, ok := holds.Find(l, saga)
		if ok != is || !equalHold(got, want) {
			t.Fatalf("Find(%s, %d) is %v, %t; want %v, %t", short(l), saga, got, ok, want, is)
		}
		if !is {
			continue
		}
		present = append(present, saga)
		if want.Until > 0 && want.Until <= now {
			due = append(due, saga)
		}
		for _, x := range want.Lines {
			totals[x.Sku] += x.N
		}
	}
	if !holds.Fit(l) || !wantFit(l) || len(l) != len(there) {
		t.Fatalf("%s: not fit, or not %d", short(l), len(there))
	}
	for i := range l {
		if l[i].Saga != present[i] {
			t.Fatalf("%s: the sagas are %v", short(l), present)
		}
	}
	for _, sku := range []string{"a", "b", "salt", "tea", "ß", "z"} {
		checkTotal(t, l, sku, totals[sku])
	}
	checkDue(t, l, now, due...)
}

// TestRows is of P13.3: long rows of holds that are put and dropped. What must
// be there is kept apart; what is refused changes nothing.
func TestRows(t *testing.T) {
	done := map[string]int{}
	for seed := range 40 {
		chance := chances(seed)
		sagas := []int{1, 2, 3, 5, 8, 13, 21, 34, 55, 89, 144, 1 << 20, 1<<32 + 1, 1 << 39, most - 2, most - 1, most}
		for i := range 6 * (seed % 4) {
			sagas = append(sagas, 1000+7*i)
		}
		slices.Sort(sagas)
		var l []api.Hold
		there := map[int]api.Hold{}
		// The lists are now short, now full.
		puts := 1 + seed%3
		for range 500 {
			saga := sagas[chance(len(sagas))]
			if chance(4) < puts {
				l = rowPut(t, done, l, there, someHold(chance, saga))
			} else {
				l = rowDrop(t, done, l, there, saga)
			}
			checkAll(t, l, there, sagas)
		}
	}
	for _, what := range []string{"put", "twice", "full", "dropped", "none"} {
		if done[what] < 500 {
			t.Errorf("only %d acts of 20000 were %s", done[what], what)
		}
	}
}

// rowPut puts a hold as one act of a row, and answers the list behind it.
func rowPut(t *testing.T, done map[string]int, l []api.Hold, there map[int]api.Hold, h api.Hold) []api.Hold {
	t.Helper()
	before := copyOf(l)
	got, err := holds.Put(l, h)
	_, is := there[h.Saga]
	switch {
	case is:
		checkErr(t, "Put of a saga that has a hold", err, api.ErrTwice)
		done["twice"]++
	case len(there) == maxSagas:
		checkErr(t, "Put into a full list", err, api.ErrFull)
		done["full"]++
	default:
		checkErr(t, "Put", err, api.OK)
		there[h.Saga] = copyOf([]api.Hold{h})[0]
		done["put"]++
		spoilLines(h.Lines)
	}
	return rowAfter(t, l, before, got, err)
}

// rowDrop drops the hold of a saga as one act of a row, and answers the list
// behind it.
func rowDrop(t *testing.T, done map[string]int, l []api.Hold, there map[int]api.Hold, saga int) []api.Hold {
	t.Helper()
	before := copyOf(l)
	got, err := holds.Drop(l, saga)
	if _, is := there[saga]; is {
		checkErr(t, "Drop", err, api.OK)
		done["dropped"]++
	} else {
		checkErr(t, "Drop of a saga that has no hold", err, api.ErrNone)
		done["none"]++
	}
	delete(there, saga)
	return rowAfter(t, l, before, got, err)
}

// rowAfter is the list behind an act: the one that was answered, or, beside an
// error, the one that was handed in, which must be as it was before.
func rowAfter(t *testing.T, l, before, got []api.Hold, err api.Errno) []api.Hold {
	t.Helper()
	if !equal(l, before) {
		t.Fatalf("%s is %s now", short(before), short(l))
	}
	if err == api.OK {
		spoil(l)
		return got
	}
	if len(got) > 0 {
		t.Fatalf("%s stands beside %d", short(got), err)
	}
	return l
}

// orders are all orders of a list of sagas.
func orders(l []int) [][]int {
	if len(l) == 0 {
		return [][]int{nil}
	}
	var all [][]int
	for i := range l {
		rest := slices.Delete(slices.Clone(l), i, i+1)
		for _, o := range orders(rest) {
			all = append(all, append([]int{l[i]}, o...))
		}
	}
	return all
}

// TestOrders is of P13.3: in whatever order holds are put, the list is the
// same; and in whatever order they are dropped, none is left.
func TestOrders(t *testing.T) {
	sagas := []int{1, 2, 7, 40, most}
	var want []api.Hold
	for _, saga := range sagas {
		want = append(want, hold(saga, saga%5, "tea 3"))
	}
	for _, order := range orders(sagas) {
		var l []api.Hold
		for _, saga := range order {
			l, _ = holds.Put(l, hold(saga, saga%5, "tea 3"))
		}
		if !equal(l, want) || !holds.Same(l, want) {
			t.Fatalf("put in the order %v: %s", order, short(l))
		}
		for i, saga := range order {
			var err api.Errno
			l, err = holds.Drop(l, saga)
			_, is := holds.Find(l, saga)
			if err != api.OK || is || len(l) != len(sagas)-i-1 {
				t.Fatalf("dropped in the order %v: %s, %d", order, short(l), err)
			}
		}
		if !holds.Same(l, nil) {
			t.Fatalf("left are %s", short(l))
		}
	}
}

// TestBranches is of P13.2 and P13.3: two lists that come of one do not touch
// each other, whatever is put or dropped.
func TestBranches(t *testing.T) {
	for many := 1; many < 16; many++ {
		l := some(many)
		base := copyOf(l)
		for at := range many + 1 {
			a, _ := holds.Put(l, hold(10*at+5, 1, "tea 1"))
			wantA := copyOf(a)
			b, _ := holds.Put(l, hold(10*at+6, 2, "salt 2"))
			c, _ := holds.Drop(l, 10*min(at, many-1)+10)
			wantB, wantC := copyOf(b), copyOf(c)
			d, _ := holds.Drop(a, 10*at+5)
			if !equal(d, base) || !equal(a, wantA) || !equal(l, base) {
				t.Fatalf("put and dropped: %s, %s, %s", short(l), short(a), short(d))
			}
			spoil(a)
			spoil(d)
			if !equal(b, wantB) || !equal(c, wantC) || !equal(l, base) {
				t.Fatalf("lists of one list share memory: %s, %s, %s", short(l), short(b), short(c))
			}
		}
	}
}
