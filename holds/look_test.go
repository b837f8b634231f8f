package holds_test

import (
	"math"
	"slices"
	"strconv"
	"testing"

	"drayman/api"
	"drayman/holds"
)

// wantTotal is the reference of Total.
func wantTotal(l []api.Hold, sku string) int {
	total := 0
	if !wantFit(l) {
		return 0
	}
	for _, h := range l {
		for _, x := range h.Lines {
			if x.Sku == sku {
				total += x.N
			}
		}
	}
	return total
}

// checkTotal holds Total against what is wanted, and against its reference.
func checkTotal(t *testing.T, l []api.Hold, sku string, want int) {
	t.Helper()
	if got := holds.Total(l, sku); got != want || got != wantTotal(l, sku) {
		t.Errorf("Total(%s, %.60q) is %d, not %d", short(l), sku, got, want)
	}
}

// otherSkus are Skus that no hold of the tests has, names and none.
func otherSkus() []string {
	return []string{"", "te", "teas", "tea ", "Tea", "TEA", "tee", "a", "-", "-tea", "tea:3", "tea\x00", "\xff", "€", "abcdefghijklm", string(make([]byte, 1<<16))}
}

// TestTotal is of P13.1: a Sku in no hold, in one, in some and in all, at each
// place of the lines.
func TestTotal(t *testing.T) {
	l := []api.Hold{hold(1, 0, "salt 1, tea 3"), hold(2, 5, "tea 40"), hold(7, 9, "a 5, salt 600, tea 7000, z 8"), hold(8, 1, "salt 9000"), hold(9, 1, "ß 1, ä 2")}
	for sku, want := range map[string]int{"salt": 9601, "tea": 7043, "a": 5, "z": 8, "ß": 1, "ä": 2, "b": 0} {
		checkTotal(t, l, sku, want)
	}
	for many := range 17 {
		l := some(many)
		checkTotal(t, l, "salt", many*(many+1)/2)
		checkTotal(t, l, "tea", 100*many+many*(many-1)/2)
		for _, sku := range otherSkus() {
			checkTotal(t, l, sku, 0)
		}
	}
	checkTotal(t, nil, "tea", 0)
	checkTotal(t, []api.Hold{}, "tea", 0)
	checkTotal(t, nil, "", 0)
}

// TestTotalOfMost is of P13.1: all holds have the most that lines may have.
func TestTotalOfMost(t *testing.T) {
	l := some(16)
	for i := range l {
		l[i].Lines = of("a 1048576, b 1048576, c 1048576, tea 1048576")
	}
	for _, sku := range []string{"a", "b", "c", "tea"} {
		checkTotal(t, l, sku, 16*maxQty)
	}
	l[7].Lines = of("a 1, b 2, c 3, tea 1048575")
	checkTotal(t, l, "tea", 16*maxQty-1)
	checkTotal(t, l, "a", 15*maxQty+1)
}

// TestTotalOfUnfit is of P13.1: a list that is not fit has no total.
func TestTotalOfUnfit(t *testing.T) {
	for _, l := range unfit() {
		for _, sku := range []string{"tea", "salt", "a", "", "Tea"} {
			checkTotal(t, l, sku, 0)
		}
	}
	checkTotal(t, some(17), "tea", 0)
	checkTotal(t, some(1<<16), "tea", 0)
}

// TestTotalLeavesItsArgument is of rule 0.5.
func TestTotalLeavesItsArgument(t *testing.T) {
	for _, l := range append(unfit(), some(3), some(16)) {
		before := copyOf(l)
		holds.Total(l, "tea")
		holds.Fit(l)
		holds.Same(l, l)
		holds.Due(l, 3)
		if !equal(l, before) {
			t.Fatalf("%s is %s now", short(before), short(l))
		}
	}
}

// untils makes a list of holds with these Untils, and the Sagas 1, 2 and so on.
func untils(l ...int) []api.Hold {
	var made []api.Hold
	for i, until := range l {
		made = append(made, hold(i+1, until, "tea 1"))
	}
	return made
}

// checkDue holds Due against what is wanted, also when the answer was turned.
func checkDue(t *testing.T, l []api.Hold, now int, want ...int) {
	t.Helper()
	got := holds.Due(l, now)
	if !slices.Equal(got, want) {
		t.Errorf("Due(%s, %d) is %.200v, not %.200v", short(l), now, got, want)
	}
	for i := range got {
		got[i] = -5
	}
	if again := holds.Due(l, now); !slices.Equal(again, want) {
		t.Errorf("Due(%s, %d) is %.200v the second time", short(l), now, again)
	}
}

// TestDue is of P13.1: at the Until, one less and one more; for ever; in the
// order of the list.
func TestDue(t *testing.T) {
	for _, until := range goodSagas() {
		for _, now := range []int{math.MinInt, -until, -1, 0, until - 1} {
			checkDue(t, untils(until), now)
		}
		for _, now := range []int{until, until + 1, most + 1, 1 << 62, math.MaxInt} {
			checkDue(t, untils(until), now, 1)
		}
	}
	for _, now := range append(goodUntils(), badUntils()...) {
		checkDue(t, untils(0), now)
	}
	l := untils(5, 0, 4, 6, 5, 1, 0, most, 5)
	checkDue(t, l, math.MinInt)
	checkDue(t, l, -1)
	checkDue(t, l, 0)
	checkDue(t, l, 1, 6)
	checkDue(t, l, 3, 6)
	checkDue(t, l, 4, 3, 6)
	checkDue(t, l, 5, 1, 3, 5, 6, 9)
	checkDue(t, l, 6, 1, 3, 4, 5, 6, 9)
	checkDue(t, l, most-1, 1, 3, 4, 5, 6, 9)
	checkDue(t, l, most, 1, 3, 4, 5, 6, 8, 9)
	checkDue(t, l, math.MaxInt, 1, 3, 4, 5, 6, 8, 9)
	checkDue(t, nil, 5)
	checkDue(t, []api.Hold{}, 5)
	all := make([]int, 16)
	for i := range all {
		all[i] = i + 1
	}
	checkDue(t, untils(slices.Repeat([]int{5}, 16)...), 5, all...)
	checkDue(t, untils(make([]int, 16)...), math.MaxInt)
}

// TestDueOfUnfit is of P13.1: Due asks for no fit list, so the sagas of all
// holds that are due come in their order, also where they do not ascend, are
// there twice or may not be.
func TestDueOfUnfit(t *testing.T) {
	l := []api.Hold{hold(9, 5, "tea 1"), hold(3, 6, "tea 1"), hold(9, 4, "tea 1"), {Saga: -2, Until: 5}, {Saga: 0, Until: 1}, hold(math.MaxInt, 2, "Tea 0"), hold(1, -5, "tea 1"), hold(2, 0, "tea 1"), hold(math.MinInt, math.MinInt, "tea 1"), hold(4, math.MaxInt, "tea 1")}
	checkDue(t, l, 5, 9, 9, -2, 0, math.MaxInt, 1, math.MinInt)
	checkDue(t, l, 4, 9, 0, math.MaxInt, 1, math.MinInt)
	checkDue(t, l, 0, 1, math.MinInt)
	checkDue(t, l, -5, 1, math.MinInt)
	checkDue(t, l, -6, math.MinInt)
	checkDue(t, l, math.MinInt, math.MinInt)
	checkDue(t, l, math.MaxInt, 9, 3, 9, -2, 0, math.MaxInt, 1, math.MinInt, 4)
	for _, l := range unfit() {
		for _, now := range []int{-1, 0, 1, 3, 4, most, math.MaxInt} {
			var want []int
			for _, h := range l {
				if h.Until != 0 && h.Until <= now {
					want = append(want, h.Saga)
				}
			}
			checkDue(t, l, now, want...)
		}
	}
	many := 1 << 16
	want := make([]int, many)
	for i := range want {
		want[i] = i + 1
	}
	checkDue(t, untils(slices.Repeat([]int{1}, many)...), 1, want...)
}

// checkSame holds Same against what is wanted, both ways round.
func checkSame(t *testing.T, a, b []api.Hold, want bool) {
	t.Helper()
	if holds.Same(a, b) != want || holds.Same(b, a) != want {
		t.Errorf("Same(%s, %s) is not %t", short(a), short(b), want)
	}
}

// turned are lists that are not equal to l: at one place with another Saga,
// Until, Sku or N, or with other lines; with a hold less or more; in another
// order.
func turned(l []api.Hold) [][]api.Hold {
	var all [][]api.Hold
	turn := func(at int, how func(h *api.Hold)) {
		x := copyOf(l)
		how(&x[at])
		all = append(all, x)
	}
	for at := range l {
		for _, by := range []int{1, -1, 1 << 32, 1 << 62, math.MinInt} {
			turn(at, func(h *api.Hold) { h.Saga += by })
			turn(at, func(h *api.Hold) { h.Until += by })
			for i := range l[at].Lines {
				turn(at, func(h *api.Hold) { h.Lines[i].N += by })
			}
		}
		for i := range l[at].Lines {
			turn(at, func(h *api.Hold) { h.Lines[i].Sku += "s" })
			turn(at, func(h *api.Hold) { h.Lines[i].Sku = "" })
			turn(at, func(h *api.Hold) { h.Lines = slices.Delete(h.Lines, i, i+1) })
			turn(at, func(h *api.Hold) { h.Lines = slices.Insert(h.Lines, i, h.Lines[i]) })
		}
		turn(at, func(h *api.Hold) { h.Lines = append(h.Lines, api.Line{}) })
		turn(at, func(h *api.Hold) { slices.Reverse(h.Lines) })
		all = append(all, slices.Delete(copyOf(l), at, at+1), slices.Insert(copyOf(l), at, copyOf(l)[at]), slices.Insert(copyOf(l), at, api.Hold{}))
	}
	back := copyOf(l)
	slices.Reverse(back)
	return append(all, append(copyOf(l), api.Hold{}), back, append(copyOf(l), copyOf(l)...))
}

// TestSame is of P13.1: lists that are equal, and such as are turned at one
// place.
func TestSame(t *testing.T) {
	for _, many := range []int{2, 3, 5, 16, 17, 40} {
		l := some(many)
		checkSame(t, l, l, true)
		checkSame(t, l, copyOf(l), true)
		for _, x := range turned(l) {
			checkSame(t, l, x, false)
			checkSame(t, x, copyOf(x), true)
		}
		for shorter := range many {
			checkSame(t, l, l[:shorter], false)
			checkSame(t, l[many-shorter:], l, false)
		}
	}
	a, b := []api.Hold{hold(1, 2, "tea 3")}, []api.Hold{hold(2, 1, "tea 3")}
	checkSame(t, a, b, false)
	checkSame(t, append(a, b...), append(b, a...), false)
}

// TestSameOfNil is of P13.1 and rule 0.7: an empty list and a nil list are the
// same, of holds and of lines.
func TestSameOfNil(t *testing.T) {
	for _, a := range [][]api.Hold{nil, {}, make([]api.Hold, 0, 5), some(3)[:0]} {
		for _, b := range [][]api.Hold{nil, {}, make([]api.Hold, 0, 5), some(2)[2:]} {
			checkSame(t, a, b, true)
		}
		checkSame(t, a, make([]api.Hold, 1), false)
		checkSame(t, a, some(1), false)
	}
	for _, x := range [][]api.Line{nil, {}, of("tea 3")[:0]} {
		for _, y := range [][]api.Line{nil, {}, make([]api.Line, 0, 4)} {
			checkSame(t, []api.Hold{{Saga: 1, Lines: x, Until: 2}}, []api.Hold{{Saga: 1, Lines: y, Until: 2}}, true)
		}
		checkSame(t, []api.Hold{{Saga: 1, Lines: x}}, []api.Hold{{Saga: 1, Lines: make([]api.Line, 1)}}, false)
	}
}

// TestSameOfUnfit is of P13.1: Same asks for no fit lists.
func TestSameOfUnfit(t *testing.T) {
	for i, l := range unfit() {
		checkSame(t, l, copyOf(l), true)
		checkSame(t, l, append(copyOf(l), hold(7, 7, "tea 7")), false)
		checkSame(t, l, some(i%16), false)
	}
	long := some(1 << 16)
	checkSame(t, long, copyOf(long), true)
	last := copyOf(long)
	last[len(last)-1].Lines[1].Sku = "t" + strconv.Itoa(1)
	checkSame(t, long, last, false)
}
