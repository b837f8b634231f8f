package timer_test

import (
	"slices"
	"testing"

	"drayman/api"
	"drayman/timer"
)

// chances makes the same row of numbers, each below n, of each seed.
func chances(seed int) func(n int) int {
	x := uint64(seed)*2654435761 + 12345
	return func(n int) int {
		x = x*6364136223846793005 + 1442695040888963407
		return int(x>>33) % n
	}
}

// mark is a Saga and a Kind.
type mark struct{ saga, kind int }

// checkAll holds all that can be asked of a list against a map of the times at
// which something must be due.
func checkAll(t *testing.T, l []api.Timer, there map[mark]int, sagas []int) {
	t.Helper()
	if !timer.Fit(l) || !wantFit(l) || len(l) != len(there) {
		t.Fatalf("%s: not fit, or not %d", short(l), len(there))
	}
	for _, saga := range sagas {
		for kind := range 6 {
			at, is := there[mark{saga, kind}]
			want := api.Timer{}
			if is {
				want = tm(at, saga, kind)
			}
			if got, ok := timer.Find(l, saga, kind); ok != is || got != want {
				t.Fatalf("Find(%s; %d, %d) is %v, %t; want %v, %t", short(l), saga, kind, got, ok, want, is)
			}
		}
	}
	least := most + 1
	for _, at := range there {
		least = min(least, at)
	}
	if _, is := timer.First(l, least-1); is {
		t.Fatalf("%s: something comes ahead of %d", short(l), least)
	}
	if got, is := timer.First(l, least); is != (len(there) > 0) || is && got.At != least {
		t.Fatalf("%s: at %d comes %v, %t", short(l), least, got, is)
	}
}

// after is the list behind an act: the one that was answered, where the one that
// was handed in is spoilt when it has been seen to be as it was.
func after(t *testing.T, l, before, got []api.Timer) []api.Timer {
	t.Helper()
	if !slices.Equal(l, before) {
		t.Fatalf("%s is %s now", short(before), short(l))
	}
	spoil(l)
	return got
}

// rowSet sets a timer as one act of a row, and answers the list behind it.
func rowSet(t *testing.T, done map[string]int, l []api.Timer, there map[mark]int, x api.Timer) []api.Timer {
	t.Helper()
	before := slices.Clone(l)
	got, err := timer.Set(l, x)
	_, is := there[mark{x.Saga, x.Kind}]
	if !is && len(there) == full {
		checkErr(t, "Set into a full list", err, api.ErrFull)
		if got != nil || !slices.Equal(l, before) {
			t.Fatalf("%s is %s, and beside an error stands %s", short(before), short(l), short(got))
		}
		done["full"]++
		return l
	}
	checkErr(t, "Set", err, api.OK)
	there[mark{x.Saga, x.Kind}] = x.At
	done["set"]++
	if is {
		done["anew"]++
	}
	return after(t, l, before, got)
}

// rowDrop drops timers as one act of a row, and answers the list behind it.
func rowDrop(t *testing.T, done map[string]int, l []api.Timer, there map[mark]int, saga, kind int) []api.Timer {
	t.Helper()
	before := slices.Clone(l)
	got := timer.Drop(l, saga, kind)
	many := len(there)
	for m := range there {
		if m.saga == saga && (kind == 0 || m.kind == kind) {
			delete(there, m)
		}
	}
	switch many - len(there) {
	case 0:
		done["none"]++
	case 1:
		done["dropped"]++
	default:
		done["more"]++
	}
	return after(t, l, before, got)
}

// TestRows is of P16.3: long rows of timers that are set and dropped. What must
// be there is kept apart; what is refused changes nothing.
func TestRows(t *testing.T) {
	done := map[string]int{}
	for seed := range 40 {
		chance := chances(seed)
		sagas := []int{1, 2, 3, 5, 8, 13, 1 << 20, 1<<32 + 1, most - 1, most}
		for i := range 10 * (seed % 3) {
			sagas = append(sagas, 1000+i)
		}
		var l []api.Timer
		there := map[mark]int{}
		// The lists are now short, now full; the times now far apart, now the same.
		sets := 8 + seed%4*5
		for range 500 {
			saga := sagas[chance(len(sagas))]
			if chance(24) < sets {
				at := []int{chance(4), chance(1000), most - chance(3), 1<<32 + chance(3)}[chance(1+seed%4)]
				l = rowSet(t, done, l, there, tm(at, saga, 1+chance(4)))
			} else {
				l = rowDrop(t, done, l, there, saga, chance(6))
			}
			checkAll(t, l, there, sagas)
		}
	}
	for _, what := range []string{"set", "anew", "full", "none", "dropped", "more"} {
		if done[what] < 300 {
			t.Errorf("only %d acts of 20000 were %s", done[what], what)
		}
	}
}

// TestOutInOrder is of P16.3: timers that are set in any order come out by First
// and Drop in the order of their times, each when its time has come.
func TestOutInOrder(t *testing.T) {
	for seed := range 60 {
		chance := chances(seed)
		var l, want []api.Timer
		for i := range 1 + seed%64 {
			x := tm(chance(1+seed), 1+i*37%64/4, 1+i*37%64%4)
			l = rowSet(t, map[string]int{}, l, timesOf(l), x)
			want = append(want, x)
		}
		slices.SortFunc(want, func(x, y api.Timer) int {
			if wantAhead(x, y) {
				return -1
			}
			return 1
		})
		var out []api.Timer
		for now := range 1 + seed {
			for {
				x, is := timer.First(l, now)
				if !is {
					break
				}
				if x.At != now {
					t.Fatalf("%v comes at %d", x, now)
				}
				out = append(out, x)
				l = timer.Drop(l, x.Saga, x.Kind)
			}
		}
		if len(l) != 0 || !slices.Equal(out, want) {
			t.Fatalf("out come %s, not %s; left are %s", short(out), short(want), short(l))
		}
	}
}

// timesOf are the times of a list by Saga and Kind.
func timesOf(l []api.Timer) map[mark]int {
	there := map[mark]int{}
	for _, x := range l {
		there[mark{x.Saga, x.Kind}] = x.At
	}
	return there
}

// TestOrders is of P16.3: in whatever order timers are set, and however often,
// the list is the same; and in whatever order they are dropped, none is left.
func TestOrders(t *testing.T) {
	want := []api.Timer{tm(2, 1, 3), tm(2, 3, 1), tm(2, 3, 2), tm(4, 1, 1), tm(5, 1, 2), tm(most, 2, 4)}
	turn := slices.Clone(want)
	var all func(n int)
	all = func(n int) {
		if n == len(turn) {
			checkOrder(t, turn, want)
			return
		}
		for i := n; i < len(turn); i++ {
			turn[n], turn[i] = turn[i], turn[n]
			all(n + 1)
			turn[n], turn[i] = turn[i], turn[n]
		}
	}
	all(0)
}

// checkOrder sets timers in the order handed in, first at another time, and
// drops them in that order.
func checkOrder(t *testing.T, order, want []api.Timer) {
	t.Helper()
	var l []api.Timer
	for _, x := range order {
		l, _ = timer.Set(l, tm(3, x.Saga, x.Kind))
		l, _ = timer.Set(l, x)
	}
	if !slices.Equal(l, want) {
		t.Fatalf("set in the order %s: %s", short(order), short(l))
	}
	for i, x := range order {
		l = timer.Drop(l, x.Saga, x.Kind)
		if _, is := timer.Find(l, x.Saga, x.Kind); is || len(l) != len(order)-i-1 || !timer.Fit(l) {
			t.Fatalf("dropped in the order %s: %s", short(order), short(l))
		}
	}
}

// TestBranches is of P16.3: lists that come of one do not touch each other,
// whatever is set or dropped.
func TestBranches(t *testing.T) {
	for many := 1; many < 64; many++ {
		l := some(many)
		for _, x := range l {
			a, _ := timer.Set(l, tm(x.At, x.Saga, x.Kind%4+1))
			b, _ := timer.Set(l, tm(x.At+3, x.Saga, x.Kind))
			c := timer.Drop(l, x.Saga, x.Kind)
			d := timer.Drop(a, x.Saga, x.Kind%4+1)
			e := timer.Drop(l, 7777, 0)
			lists := [][]api.Timer{l, a, b, c, d, e}
			var before [][]api.Timer
			for _, y := range lists {
				before = append(before, slices.Clone(y))
			}
			for i, y := range lists {
				spoil(y)
				for j, z := range lists[i+1:] {
					if !slices.Equal(z, before[i+1+j]) {
						t.Fatalf("lists of one list share memory: %s", short(z))
					}
				}
			}
			l = some(many)
		}
	}
}

// TestExamples is of the chapter's examples.
func TestExamples(t *testing.T) {
	l, err := timer.Set(nil, tm(5, 1, 1))
	checkErr(t, "Set of 5 for saga 1", err, api.OK)
	l, err = timer.Set(l, tm(3, 2, 1))
	checkErr(t, "Set of 3 for saga 2", err, api.OK)
	if x, is := timer.First(l, 4); !is || x != tm(3, 2, 1) {
		t.Errorf("First at 4 is %v, %t", x, is)
	}
	if x, is := timer.First(l, 2); is || x != (api.Timer{}) {
		t.Errorf("First at 2 is %v, %t", x, is)
	}
}
