package letter_test

import (
	"math"
	"slices"
	"strconv"
	"strings"
	"testing"

	"drayman/api"
	"drayman/letter"
)

const (
	most = 1 << 40
	full = 16
)

// le makes a letter of a saga, whose other fields are ordinary ones.
func le(saga int) api.Letter { return api.Letter{Saga: saga, Step: 1, Why: 8, At: 9} }

// some makes a fit list of as many letters as asked for, and of more than may be
// too. Sagas have room between any two, and every field takes each value that it
// may have.
func some(many int) []api.Letter {
	var l []api.Letter
	for i := range many {
		l = append(l, api.Letter{Saga: 10*i + 10, Step: i % 6, Back: i%2 == 1, Why: 7 + i/2%2, At: 11 * i})
	}
	return l
}

// dense makes such a list whose Sagas begin at the least and have nothing between
// them.
func dense(many int) []api.Letter {
	var l []api.Letter
	for i := range many {
		l = append(l, api.Letter{Saga: i + 1, Step: 5 - i%6, Back: i%3 == 0, Why: 8 - i%2, At: most - i})
	}
	return l
}

// high makes such a list that ends with the greatest Saga.
func high(many int) []api.Letter {
	var l []api.Letter
	for i := range many {
		l = append(l, api.Letter{Saga: most - many + i + 1, Step: i % 6, Why: 7, At: i})
	}
	return l
}

// wide makes such a list whose Sagas differ in more than their last 32 bits.
func wide(many int) []api.Letter {
	var l []api.Letter
	for i := range many {
		l = append(l, api.Letter{Saga: i<<33 + 5, Back: true, Why: 8, At: i << 33})
	}
	return l
}

// kinds are lists of each kind with as many letters as asked for.
func kinds(many int) [][]api.Letter {
	return [][]api.Letter{some(many), dense(many), high(many), wide(many)}
}

// wantValid is the reference of what a letter must be.
func wantValid(x api.Letter) bool {
	step := slices.Contains([]int{0, 1, 2, 3, 4, 5}, x.Step)
	why := slices.Contains([]int{7, 8}, x.Why)
	return step && why && 0 < x.Saga && x.Saga <= most && 0 <= x.At && x.At <= most
}

// wantFit is the reference of Fit: each condition for all letters and all pairs.
func wantFit(l []api.Letter) bool {
	is := len(l) <= full
	for i, x := range l {
		is = is && wantValid(x)
		for _, y := range l[:i] {
			is = is && y.Saga < x.Saga
		}
	}
	return is
}

// goodAts are amounts at and beside their edges.
func goodAts() []int {
	return []int{0, 1, 2, 3, 9, 10, 100, 1<<31 - 1, 1 << 31, 1<<32 - 1, 1 << 32, 1<<32 + 1, most - 257, most - 256, most - 1, most}
}

// goodSagas are Sagas that a letter may have.
func goodSagas() []int { return goodAts()[1:] }

// badAts are numbers that are no amounts.
func badAts() []int {
	return []int{-1, -2, -most, -most - 1, -1 << 32, -1<<32 + 1, -1 << 62, math.MinInt + 1, math.MinInt, most + 1, most + 2, 2 * most, 1 << 62, math.MaxInt - 1, math.MaxInt}
}

// badSagas are Sagas that no letter may have.
func badSagas() []int { return append([]int{0}, badAts()...) }

// badSteps are Steps that no letter may have.
func badSteps() []int {
	return append([]int{6, 7, 8, 100, 256, 257, 261, 1 << 32, 1<<32 + 1, 1<<32 + 5, most - 1, most, math.MinInt + 5}, badAts()...)
}

// badWhys are numbers other than WhyTries and WhyPark: the other reasons, those
// beside them, and those that end with the same bits.
func badWhys() []int {
	return append([]int{0, 1, 2, 3, 4, 5, 6, 9, 10, 15, 16, 100, 256 + 7, 256 + 8, 1<<32 + 7, 1<<32 + 8, -7, -8, most, math.MinInt + 7, math.MinInt + 8}, badAts()...)
}

// with is a letter in which something is changed.
func with(x api.Letter, change func(x *api.Letter)) api.Letter {
	change(&x)
	return x
}

// badLetters are letters that are not valid, each for one reason, but the first
// ones. What is not the reason is as in the letter that is handed in.
func badLetters(x api.Letter) []api.Letter {
	l := []api.Letter{{}, {Saga: x.Saga}, {Back: true}, {Saga: -1, Step: -1, Why: -1, At: -1}, {Saga: most + 1, Step: 6, Why: 9, At: most + 1}}
	for _, n := range badSagas() {
		l = append(l, with(x, func(x *api.Letter) { x.Saga = n }))
	}
	for _, n := range badSteps() {
		l = append(l, with(x, func(x *api.Letter) { x.Step = n }))
	}
	for _, n := range badWhys() {
		l = append(l, with(x, func(x *api.Letter) { x.Why = n }))
	}
	for _, n := range badAts() {
		l = append(l, with(x, func(x *api.Letter) { x.At = n }))
	}
	return l
}

// long are lists that are not fit for their length alone.
func long() [][]api.Letter {
	l := [][]api.Letter{dense(32), dense(33), some(256), some(272), high(64), dense(1 << 12)}
	for many := 17; many < 24; many++ {
		l = append(l, kinds(many)...)
	}
	return l
}

// disordered are lists that are not fit for the order of their Sagas alone.
func disordered() [][]api.Letter {
	l := [][]api.Letter{
		{le(1), le(1)}, {le(2), le(1)}, {le(most), le(1)}, {le(most), le(most)}, {le(most), le(most - 1)}, {le(1 << 32), le(1)},
		{le(1<<32 + 1), le(2)}, {le(1<<32 + 1), le(1)}, {le(3), le(1), le(2)}, {le(1), le(3), le(2)}, {le(1), le(2), le(1)}, {le(2), le(1), le(3)},
	}
	for _, many := range []int{2, 3, 9, 15, 16} {
		for _, whole := range kinds(many) {
			back := slices.Clone(whole)
			slices.Reverse(back)
			l = append(l, back)
			for at := 1; at < many; at++ {
				swapped, early, late := slices.Clone(whole), slices.Clone(whole), slices.Clone(whole)
				swapped[at], swapped[at-1] = swapped[at-1], swapped[at]
				// Two of one saga that are alike in nothing else.
				early[at].Saga = early[at-1].Saga
				late[at-1].Saga = late[at].Saga
				l = append(l, swapped, early, late, slices.Concat(whole[at:], whole[:at]))
			}
		}
	}
	return l
}

// unfit are lists that are not fit, each for one reason: one letter that is not
// valid, at each place; too many letters; a wrong order.
func unfit() [][]api.Letter {
	l := [][]api.Letter{make([]api.Letter, 1), make([]api.Letter, 2), make([]api.Letter, 17)}
	for _, many := range []int{1, 2, 3, 9, 15, 16} {
		for at := range many {
			for _, whole := range [][]api.Letter{some(many), dense(many)} {
				for _, x := range badLetters(whole[at]) {
					bad := slices.Clone(whole)
					bad[at] = x
					l = append(l, bad)
				}
			}
		}
	}
	return slices.Concat(l, long(), disordered())
}

// short writes a list for a message, but not more of it than can be read.
func short(l []api.Letter) string {
	var s strings.Builder
	s.WriteString(strconv.Itoa(len(l)) + " letters:")
	for i, x := range l {
		if i == 18 {
			s.WriteString(" and more")
			break
		}
		s.WriteString(" " + strconv.Itoa(x.Saga) + "/" + strconv.Itoa(x.Step) + "/" + strconv.FormatBool(x.Back) + "/" + strconv.Itoa(x.Why) + "/" + strconv.Itoa(x.At))
	}
	return s.String()
}

// laid lays a list into a longer array, so that something lies ahead of it and
// behind it. It tells whether all of that is still as it was.
func laid(l []api.Letter) ([]api.Letter, func() bool) {
	around := []api.Letter{le(-5), le(-6), le(-7)}
	array := slices.Concat(around, l, around)
	before := slices.Clone(array)
	return array[3 : 3+len(l)], func() bool { return slices.Equal(array, before) }
}

// checkFit holds Fit against what is wanted, and against its reference.
func checkFit(t *testing.T, l []api.Letter, want bool) {
	t.Helper()
	list, asItWas := laid(l)
	if got := letter.Fit(list); got != want || got != wantFit(l) {
		t.Errorf("Fit of %s is %t", short(l), got)
	}
	if !asItWas() {
		t.Fatalf("Fit changed %s", short(l))
	}
}

// TestFit is of P19.1: lists that are fit, of each length, and too long ones.
func TestFit(t *testing.T) {
	if !letter.Fit(nil) || !letter.Fit([]api.Letter{}) || !letter.Fit(make([]api.Letter, 0, 100)) {
		t.Errorf("no letters are not fit")
	}
	for many := range 17 {
		for _, l := range kinds(many) {
			checkFit(t, l, true)
		}
	}
	for _, l := range long() {
		checkFit(t, l, false)
		// The same letters are fit where there are as many as may be.
		checkFit(t, l[:full], true)
		checkFit(t, l[len(l)-full:], true)
		checkFit(t, l[:full+1], false)
	}
}

// TestFitOfOne is of P19.1: each field of a letter at and beside its edges.
func TestFitOfOne(t *testing.T) {
	for _, saga := range goodSagas() {
		for _, at := range goodAts() {
			for step := range 6 {
				for _, back := range []bool{false, true} {
					for _, why := range []int{api.WhyTries, api.WhyPark} {
						checkFit(t, []api.Letter{{Saga: saga, Step: step, Back: back, Why: why, At: at}}, true)
					}
				}
			}
		}
	}
	least, greatest := api.Letter{Saga: 1, Why: 7}, api.Letter{Saga: most, Step: 5, Back: true, Why: 8, At: most}
	for _, x := range []api.Letter{le(3), least, greatest, {Saga: 2, Step: 2, Why: 7, At: 2}} {
		checkFit(t, []api.Letter{x}, true)
		for _, bad := range badLetters(x) {
			checkFit(t, []api.Letter{bad}, false)
		}
	}
}

// TestFitOfEachNumber is of P19.1: small numbers at each place of a letter.
func TestFitOfEachNumber(t *testing.T) {
	fit := 0
	for saga := -2; saga < 4; saga++ {
		for step := -3; step < 12; step++ {
			for why := -9; why < 20; why++ {
				for at := -2; at < 4; at++ {
					x := api.Letter{Saga: saga, Step: step, Back: (saga+step+why+at)%2 == 0, Why: why, At: at}
					checkFit(t, []api.Letter{x}, wantValid(x))
					if letter.Fit([]api.Letter{x}) {
						fit++
					}
				}
			}
		}
	}
	if fit != 3*6*2*4 {
		t.Errorf("fit are %d", fit)
	}
}

// TestFitOfTwo is of P19.1: the Sagas of two and of three, at all edges.
func TestFitOfTwo(t *testing.T) {
	all := append(goodAts(), badAts()...)
	for _, x := range all {
		for _, y := range all {
			is := x > 0 && y > 0 && x <= most && y <= most && x < y
			checkFit(t, []api.Letter{le(x), le(y)}, is)
			// What else they have makes no order.
			checkFit(t, []api.Letter{{Saga: x, Step: 5, Back: true, Why: 8, At: most}, {Saga: y, Why: 7}}, is)
			checkFit(t, []api.Letter{{Saga: x, Why: 7}, {Saga: y, Step: 5, Back: true, Why: 8, At: most}}, is)
			checkFit(t, []api.Letter{le(x), le(50), le(y)}, is && x < 50 && 50 < y)
		}
	}
}

// TestFitOfUnfit is of P19.1: lists that are not fit, for each reason.
func TestFitOfUnfit(t *testing.T) {
	for _, l := range unfit() {
		checkFit(t, l, false)
	}
}

// TestFitOfEach is of P19.1: all lists of up to four letters that have small
// Sagas.
func TestFitOfEach(t *testing.T) {
	var fit [5]int
	var all func(l []api.Letter)
	all = func(l []api.Letter) {
		is := wantFit(l)
		checkFit(t, l, is)
		if is {
			fit[len(l)]++
		}
		if len(l) == 4 {
			return
		}
		for saga := -1; saga < 7; saga++ {
			all(append(l[:len(l):len(l)], le(saga)))
		}
	}
	all(nil)
	// Of six Sagas some are chosen.
	if fit != [5]int{1, 6, 15, 20, 15} {
		t.Errorf("of each length are fit: %v", fit)
	}
}
