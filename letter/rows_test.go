package letter_test

import (
	"cmp"
	"slices"
	"testing"

	"drayman/api"
	"drayman/letter"
)

// chances makes the same row of numbers, each below n, of each seed.
func chances(seed int) func(n int) int {
	x := uint64(seed)*2654435761 + 12345
	return func(n int) int {
		x = x*6364136223846793005 + 1442695040888963407
		return int(x>>33) % n
	}
}

// desk keeps apart what a list must have: the letter of each saga that has one.
type desk struct {
	there map[int]api.Letter
	done  map[string]int
}

// letters are those that there must be, by their Sagas.
func (d *desk) letters() []api.Letter {
	var l []api.Letter
	for _, x := range d.there {
		l = append(l, x)
	}
	slices.SortFunc(l, func(x, y api.Letter) int { return cmp.Compare(x.Saga, y.Saga) })
	return l
}

// put notes a letter, and answers what must come of it.
func (d *desk) put(x api.Letter) api.Errno {
	if _, is := d.there[x.Saga]; is {
		d.done["twice"]++
		return api.ErrTwice
	}
	if len(d.there) == full {
		d.done["full"]++
		return api.ErrFull
	}
	d.done["put"]++
	d.there[x.Saga] = x
	return api.OK
}

// drop notes that a saga has no letter, and answers what must come of it.
func (d *desk) drop(saga int) api.Errno {
	if _, is := d.there[saga]; !is {
		d.done["none"]++
		return api.ErrNone
	}
	d.done["dropped"]++
	delete(d.there, saga)
	return api.OK
}

// act does one act of a row, and answers the list behind it. The list that was
// handed in is spoilt when it has been seen to be as it was, so that the row goes
// on with the answer alone.
func (d *desk) act(t *testing.T, l []api.Letter, want api.Errno, do func(l []api.Letter) ([]api.Letter, api.Errno)) []api.Letter {
	t.Helper()
	before := slices.Clone(l)
	got, err := do(l)
	if err != want || !slices.Equal(l, before) {
		t.Fatalf("an act on %s is %d, not %d, or has changed it to %s", short(before), err, want, short(l))
	}
	if err != api.OK {
		if got != nil {
			t.Fatalf("beside %d stands %s", err, short(got))
		}
		return l
	}
	spoil(l)
	return got
}

// check holds all that can be asked of a list against what is kept apart.
func (d *desk) check(t *testing.T, l []api.Letter, sagas []int) {
	t.Helper()
	if !letter.Fit(l) || !slices.Equal(l, d.letters()) {
		t.Fatalf("%s is not fit, or not %s", short(l), short(d.letters()))
	}
	for _, saga := range sagas {
		want, is := d.there[saga]
		got, ok := letter.Find(l, saga)
		if ok != is || got != want || letter.Text(got) != wantText(want) {
			t.Fatalf("Find(%s; %d) is %v, %t; want %v, %t", short(l), saga, got, ok, want, is)
		}
	}
}

// TestRows is of P19.2 and P19.3: long rows of letters that are put and dropped.
// What must be there is kept apart; what is refused changes nothing.
func TestRows(t *testing.T) {
	done := map[string]int{}
	for seed := range 40 {
		chance := chances(seed)
		sagas := []int{1, 2, 3, 5, 8, 13, 1 << 20, 1<<32 + 1, most - 1, most}
		for i := range 8 * (seed % 3) {
			sagas = append(sagas, 1000+i)
		}
		d := &desk{there: map[int]api.Letter{}, done: done}
		var l []api.Letter
		// The lists are now short, now full.
		puts := 9 + seed%4*4
		for range 500 {
			saga := sagas[chance(len(sagas))]
			if chance(24) < puts {
				x := api.Letter{Saga: saga, Step: chance(6), Back: chance(2) == 0, Why: 7 + chance(2), At: chance(100)}
				l = d.act(t, l, d.put(x), func(l []api.Letter) ([]api.Letter, api.Errno) { return letter.Put(l, x) })
			} else {
				l = d.act(t, l, d.drop(saga), func(l []api.Letter) ([]api.Letter, api.Errno) { return letter.Drop(l, saga) })
			}
			d.check(t, l, sagas)
		}
	}
	for _, what := range []string{"put", "twice", "full", "dropped", "none"} {
		if done[what] < 300 {
			t.Errorf("only %d acts of 20000 were %s: %v", done[what], what, done)
		}
	}
}

// TestOrders is of P19.2 and P19.3: six letters are put in each order, and
// dropped in another; each list on the way has what is left, and no more.
func TestOrders(t *testing.T) {
	sagas := []int{1, 4, 5, 1 << 32, most - 1, most}
	orders := 0
	var all func(l []api.Letter, order, left []int)
	all = func(l []api.Letter, order, left []int) {
		if len(left) == 0 {
			orders++
			if letters := []api.Letter{le(1), le(4), le(5), le(1 << 32), le(most - 1), le(most)}; !slices.Equal(l, letters) {
				t.Fatalf("put in the order %v there is %s", order, short(l))
			}
			dropAll(t, l, order, orders)
		}
		for i, saga := range left {
			got, err := letter.Put(l, le(saga))
			checkErr(t, "Put", err, api.OK)
			all(got, append(order[:len(order):len(order)], saga), slices.Delete(slices.Clone(left), i, i+1))
		}
	}
	all(nil, nil, sagas)
	if orders != 720 {
		t.Errorf("there are %d orders", orders)
	}
}

// dropAll drops the letters of all sagas, in an order that is turned round or
// begins elsewhere.
func dropAll(t *testing.T, l []api.Letter, order []int, turn int) {
	t.Helper()
	order = slices.Concat(order[turn%6:], order[:turn%6])
	if turn%2 == 0 {
		slices.Reverse(order)
	}
	for i, saga := range order {
		got, err := letter.Drop(l, saga)
		checkErr(t, "Drop", err, api.OK)
		if len(got) != len(order)-i-1 {
			t.Fatalf("Drop(%s; %d) is %s", short(l), saga, short(got))
		}
		for j, other := range order {
			if x, is := letter.Find(got, other); is != (j > i) || is && x != le(other) {
				t.Fatalf("behind the drops of %v, saga %d has %v, %t", order[:i+1], other, x, is)
			}
		}
		_, err = letter.Drop(got, saga)
		checkErr(t, "Drop once more", err, api.ErrNone)
		l = got
	}
}

// TestAnew is of P19.3: a letter that was dropped can be put again, as another
// one, and has the new one's text then.
func TestAnew(t *testing.T) {
	for _, l := range append(kinds(16), kinds(3)...) {
		for _, x := range l {
			y := api.Letter{Saga: x.Saga, Step: 5 - x.Step, Back: !x.Back, Why: 15 - x.Why, At: most - x.At}
			rest, err := letter.Drop(l, x.Saga)
			checkErr(t, "Drop", err, api.OK)
			got, err := letter.Put(rest, y)
			checkErr(t, "Put anew", err, api.OK)
			found, is := letter.Find(got, x.Saga)
			if !is || found != y || letter.Text(found) == letter.Text(x) || letter.Text(found) != wantText(y) {
				t.Fatalf("put anew is %v, found is %v, %t", y, found, is)
			}
			if len(got) != len(l) {
				t.Fatalf("%s is %s with saga %d anew", short(l), short(got), x.Saga)
			}
		}
	}
}

// TestBranches is of P19.2: lists that come of one do not touch each other,
// whatever is put or dropped.
func TestBranches(t *testing.T) {
	for many := 1; many < 15; many++ {
		for _, x := range some(many) {
			l := some(many)
			lists := [][]api.Letter{l}
			note := func(got []api.Letter, err api.Errno) []api.Letter {
				t.Helper()
				checkErr(t, "an act", err, api.OK)
				lists = append(lists, got)
				return got
			}
			a := note(letter.Put(l, le(7777)))
			note(letter.Put(l, le(x.Saga+1)))
			note(letter.Put(a, le(x.Saga-1)))
			note(letter.Put(a, le(8888)))
			note(letter.Put(a, le(9999)))
			note(letter.Drop(l, x.Saga))
			note(letter.Drop(a, 7777))
			note(letter.Drop(a, x.Saga))
			var before [][]api.Letter
			for _, y := range lists {
				before = append(before, slices.Clone(y))
			}
			for i, y := range lists {
				spoil(y)
				for j, z := range lists[i+1:] {
					if !slices.Equal(z, before[i+1+j]) {
						t.Fatalf("lists of one list share memory: %s", short(z))
					}
				}
			}
		}
	}
}

// TestExamples is of the chapter's examples.
func TestExamples(t *testing.T) {
	x := api.Letter{Saga: 3, Step: 1, Why: api.WhyPark, At: 9}
	if got := letter.Text(x); got != "saga 3 step 1 parked at 9" {
		t.Errorf("Text is %q", got)
	}
	l, err := letter.Put(nil, x)
	checkErr(t, "Put", err, api.OK)
	_, err = letter.Put(l, x)
	checkErr(t, "Put once more", err, api.ErrTwice)
}
