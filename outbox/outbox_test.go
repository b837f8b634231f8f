package outbox_test

import (
	"math"
	"slices"
	"strconv"
	"strings"
	"testing"

	"drayman/api"
	"drayman/outbox"
)

const (
	most = 1 << 40
	full = 16
)

// en makes an entry of the first step's kind, with a Sum of its own.
func en(id, saga int) api.Entry {
	return api.Entry{Id: id, Saga: saga, Step: 1, Op: 2, Sum: 50}
}

// some makes a fit list of as many entries as asked for, and of more than may be
// too. Ids have room between any two, Sagas rise and fall, and every field takes
// each value that it may have.
func some(many int) []api.Entry {
	var l []api.Entry
	for i := range many {
		l = append(l, api.Entry{Id: 10*i + 10, Saga: 1000 + 100*(i*7%23), Step: i % 6, Back: i%2 == 1, Op: 2 + i%3*2, Sum: i * 11, Must: i%4 > 1})
	}
	return l
}

// dense makes a fit list of as many entries as asked for, whose Ids and Sagas
// have nothing between them.
func dense(many int) []api.Entry {
	var l []api.Entry
	for i := range many {
		l = append(l, api.Entry{Id: i + 1, Saga: many - i, Step: 5 - i%6, Back: i%3 == 1, Op: 6 - i%3*2, Sum: i, Must: i%5 > 1})
	}
	return l
}

// wantValid is the reference of what an entry must be.
func wantValid(x api.Entry) bool {
	switch x.Op {
	case 2, 4, 6:
	default:
		return false
	}
	switch x.Step {
	case 0, 1, 2, 3, 4, 5:
	default:
		return false
	}
	return 0 < x.Id && x.Id <= most && 0 < x.Saga && x.Saga <= most && 0 <= x.Sum && x.Sum <= most
}

// wantFit is the reference of Fit: each condition for all entries and all pairs.
func wantFit(l []api.Entry) bool {
	is := len(l) <= full
	for i, x := range l {
		is = is && wantValid(x)
		for _, y := range l[:i] {
			is = is && y.Id < x.Id && y.Saga != x.Saga
		}
	}
	return is
}

// goodSums are Sums that an entry may have.
func goodSums() []int {
	return []int{0, 1, 2, 3, 100, 1 << 31, 1<<32 - 1, 1 << 32, 1<<32 + 1, most - 257, most - 256, most - 255, most - 1, most}
}

// goodIds are Ids and Sagas that an entry may have.
func goodIds() []int { return goodSums()[1:] }

// badSums are Sums that no entry may have.
func badSums() []int {
	return []int{-1, -2, -most, -1 << 32, -1<<32 + 1, -1 << 62, math.MinInt + 1, math.MinInt, most + 1, most + 2, 2 * most, 1 << 62, math.MaxInt - 1, math.MaxInt}
}

// badIds are Ids and Sagas that no entry may have.
func badIds() []int { return append([]int{0}, badSums()...) }

// badSteps are Steps that no entry may have.
func badSteps() []int {
	return append([]int{6, 7, 8, 100, 256, 257, 261, 1 << 32, 1<<32 + 1, 1<<32 + 5, most - 1, most, math.MinInt + 5}, badSums()...)
}

// badOps are Ops that no entry may have.
func badOps() []int {
	return append([]int{0, 1, 3, 5, 7, 8, 100, 256, 258, 260, 262, 1 << 32, 1<<32 + 2, 1<<32 + 4, 1<<32 + 6, most - 1, most, math.MinInt + 2, math.MinInt + 4, math.MinInt + 6}, badSums()...)
}

// with is an entry in which something is changed.
func with(x api.Entry, change func(x *api.Entry)) api.Entry {
	change(&x)
	return x
}

// badEntries are entries that are not valid, each for one reason, but the first
// ones. What is not the reason is as in the entry that is handed in.
func badEntries(x api.Entry) []api.Entry {
	l := []api.Entry{{}, {Id: x.Id, Saga: x.Saga}, {Id: -1, Saga: -1, Step: -1, Op: -1, Sum: -1}, {Id: most + 1, Saga: most + 1, Step: 6, Op: 7, Sum: most + 1}}
	for _, n := range badIds() {
		l = append(l, with(x, func(x *api.Entry) { x.Id = n }), with(x, func(x *api.Entry) { x.Saga = n }))
	}
	for _, n := range badSteps() {
		l = append(l, with(x, func(x *api.Entry) { x.Step = n }))
	}
	for _, n := range badOps() {
		l = append(l, with(x, func(x *api.Entry) { x.Op = n }))
	}
	for _, n := range badSums() {
		l = append(l, with(x, func(x *api.Entry) { x.Sum = n }))
	}
	return l
}

// unfit are lists that are not fit, each for one reason: one entry that is not
// valid, at each place; too many entries; a wrong order; a saga that is twice.
func unfit() [][]api.Entry {
	l := [][]api.Entry{some(17), some(18), dense(17), dense(32), some(23), make([]api.Entry, 1), make([]api.Entry, 17)}
	for _, many := range []int{1, 2, 3, 9, 15, 16} {
		for at := range many {
			for _, x := range badEntries(some(many)[at]) {
				bad := some(many)
				bad[at] = x
				l = append(l, bad)
			}
		}
	}
	return slices.Concat(l, disordered(), doubled())
}

// disordered are lists that are not fit for the order of their Ids alone.
func disordered() [][]api.Entry {
	l := [][]api.Entry{
		{en(1, 1), en(1, 2)}, {en(2, 1), en(1, 2)}, {en(most, 1), en(1, 2)}, {en(most, 1), en(most, 2)}, {en(most, 1), en(most-1, most)},
		{en(1<<32, 1), en(1, 2)}, {en(1<<32+1, 2), en(1, 1)}, {en(1<<32+1, 2), en(2, 1)}, {en(3, 1), en(1, 2), en(2, 3)}, {en(1, 1), en(3, 2), en(2, 3)}, {en(1, 1), en(2, 2), en(1, 3)},
	}
	for _, many := range []int{2, 3, 9, 16} {
		for _, whole := range [][]api.Entry{some(many), dense(many)} {
			back := slices.Clone(whole)
			slices.Reverse(back)
			l = append(l, back)
			for at := 1; at < many; at++ {
				swapped := slices.Clone(whole)
				swapped[at], swapped[at-1] = swapped[at-1], swapped[at]
				turned := append(slices.Clone(whole[at:]), whole[:at]...)
				same := slices.Clone(whole)
				same[at].Id = same[at-1].Id
				l = append(l, swapped, turned, same)
			}
		}
	}
	return l
}

// doubled are lists that are not fit for one saga that is there twice.
func doubled() [][]api.Entry {
	l := [][]api.Entry{
		{en(1, 1), en(2, 1)}, {en(1, most), en(most, most)}, {en(1, 1<<32+1), en(2, 1<<32+1)},
		{en(1, 7), en(2, 8), en(3, 7)}, {en(1, 7), en(2, 8), en(3, 9), en(4, 7)}, {en(1, 6), en(2, 7), en(3, 8), en(4, 7), en(5, 9)},
	}
	for _, many := range []int{2, 3, 9, 16} {
		for first := range many {
			for next := first + 1; next < many; next++ {
				one, other := some(many), dense(many)
				one[next].Saga = one[first].Saga
				other[first].Saga = other[next].Saga
				l = append(l, one, other)
			}
		}
	}
	return l
}

// short writes a list for a message, but not more of it than can be read.
func short(l []api.Entry) string {
	var s strings.Builder
	s.WriteString(strconv.Itoa(len(l)) + " entries:")
	for i, x := range l {
		if i == 18 {
			s.WriteString(" and more")
			break
		}
		s.WriteString(" " + strconv.Itoa(x.Id) + "/" + strconv.Itoa(x.Saga) + "/" + strconv.Itoa(x.Step) + "/" + strconv.Itoa(x.Op) + "/" + strconv.Itoa(x.Sum))
	}
	return s.String()
}

// checkFit holds Fit against what is wanted, and against its reference.
func checkFit(t *testing.T, l []api.Entry, want bool) {
	t.Helper()
	before := slices.Clone(l)
	if got := outbox.Fit(l); got != want || got != wantFit(l) {
		t.Errorf("Fit of %s is %t", short(l), got)
	}
	if !slices.Equal(l, before) {
		t.Fatalf("Fit changed %s", short(before))
	}
}

// TestFit is of P17.1: lists that are fit, of each length, and too long ones.
func TestFit(t *testing.T) {
	checkFit(t, nil, true)
	checkFit(t, []api.Entry{}, true)
	checkFit(t, make([]api.Entry, 0, 100), true)
	for many := range 17 {
		checkFit(t, some(many), true)
		checkFit(t, dense(many), true)
	}
	for many := 17; many < 24; many++ {
		checkFit(t, some(many), false)
		checkFit(t, dense(many), false)
	}
	checkFit(t, dense(1<<12), false)
	checkFit(t, dense(32)[8:24], true)
	checkFit(t, dense(32)[7:24], false)
}

// TestFitOfOne is of P17.1: each number of an entry at and beside its edges.
func TestFitOfOne(t *testing.T) {
	for _, op := range []int{2, 4, 6} {
		for step := range 6 {
			for _, back := range []bool{false, true} {
				for _, must := range []bool{false, true} {
					checkFit(t, []api.Entry{{Id: 7, Saga: 8, Step: step, Back: back, Op: op, Sum: 9, Must: must}}, true)
				}
			}
		}
	}
	for _, id := range goodIds() {
		for _, saga := range goodIds() {
			for _, sum := range goodSums() {
				checkFit(t, []api.Entry{{Id: id, Saga: saga, Op: 2, Sum: sum}}, true)
			}
		}
	}
	least, greatest := api.Entry{Id: 1, Saga: 1, Op: 2}, api.Entry{Id: most, Saga: most, Step: 5, Back: true, Op: 6, Sum: most, Must: true}
	for _, x := range []api.Entry{en(5, 3), least, greatest, {Id: 2, Saga: 2, Step: 2, Op: 4, Sum: 2}} {
		checkFit(t, []api.Entry{x}, true)
		for _, bad := range badEntries(x) {
			checkFit(t, []api.Entry{bad}, false)
		}
	}
}

// TestFitOfEachNumber is of P17.1: small numbers at each place of an entry.
func TestFitOfEachNumber(t *testing.T) {
	fit := 0
	for id := -2; id < 3; id++ {
		for saga := -2; saga < 3; saga++ {
			for step := -2; step < 8; step++ {
				for op := -2; op < 9; op++ {
					for sum := -2; sum < 3; sum++ {
						x := api.Entry{Id: id, Saga: saga, Step: step, Op: op, Sum: sum}
						checkFit(t, []api.Entry{x}, wantValid(x))
						if wantValid(x) {
							fit++
						}
					}
				}
			}
		}
	}
	if fit != 2*2*6*3*3 {
		t.Errorf("fit are %d", fit)
	}
}

// TestFitOfTwo is of P17.1: the Ids and the Sagas of two, at all edges.
func TestFitOfTwo(t *testing.T) {
	all := append(goodSums(), badSums()...)
	for _, x := range all {
		for _, y := range all {
			is := x > 0 && y > 0 && x <= most && y <= most
			checkFit(t, []api.Entry{en(x, 1), en(y, 2)}, is && x < y)
			checkFit(t, []api.Entry{en(x, 2), en(y, 1)}, is && x < y)
			checkFit(t, []api.Entry{en(x, 2), en(y, 2)}, false)
			checkFit(t, []api.Entry{en(1, x), en(2, y)}, is && x != y)
			checkFit(t, []api.Entry{en(2, x), en(1, y)}, false)
			checkFit(t, []api.Entry{en(1, x), en(2, 50), en(3, y)}, is && x != y)
		}
	}
}

// TestFitOfUnfit is of P17.1: lists that are not fit, for each reason.
func TestFitOfUnfit(t *testing.T) {
	for _, l := range unfit() {
		checkFit(t, l, false)
	}
}

// TestFitOfDoubled is of P17.1: a saga that is there twice is the only reason,
// so without either of the two the list is fit, and without another not.
func TestFitOfDoubled(t *testing.T) {
	for _, l := range doubled() {
		for i, x := range l {
			again := 0
			for _, y := range l {
				if y.Saga == x.Saga {
					again++
				}
			}
			checkFit(t, slices.Delete(slices.Clone(l), i, i+1), again == 2)
		}
	}
	// What else two entries have in common is no reason.
	a, b := en(1, 1), en(2, 2)
	checkFit(t, []api.Entry{a, b}, true)
	a.Back, b.Must = true, true
	checkFit(t, []api.Entry{a, b}, true)
}

// TestFitOfEach is of P17.1: all lists of up to four entries that have small
// numbers.
func TestFitOfEach(t *testing.T) {
	var small []api.Entry
	for id := range 5 {
		for saga := range 3 {
			small = append(small, en(id, saga))
		}
	}
	small = append(small, en(5, 3))
	var fit [5]int
	var all func(l []api.Entry)
	all = func(l []api.Entry) {
		is := wantFit(l)
		checkFit(t, l, is)
		if is {
			fit[len(l)]++
		}
		if len(l) == 4 {
			return
		}
		for _, x := range small {
			all(append(l[:len(l):len(l)], x))
		}
	}
	all(nil)
	// Of four Ids some are chosen for two sagas in either order; behind them may
	// come the fifth Id, of a third saga.
	if fit != [5]int{1, 4*2 + 1, 6*2 + 4*2, 6 * 2, 0} {
		t.Errorf("of each length are fit: %v", fit)
	}
}
