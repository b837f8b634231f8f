package timer_test

import (
	"math"
	"slices"
	"strconv"
	"strings"
	"testing"

	"drayman/api"
	"drayman/timer"
)

const (
	most = 1 << 40
	full = 64
)

// tm makes a timer.
func tm(at, saga, kind int) api.Timer { return api.Timer{At: at, Saga: saga, Kind: kind} }

// some makes a fit list of as many timers as asked for, and of more than may be
// too. Eight have one At, two of these one Saga; Sagas fall where Ats rise, and
// there is room between any two.
func some(many int) []api.Timer {
	var l []api.Timer
	for i := range many {
		group, pair := i/8, i%8/2
		l = append(l, tm(10*group+10, 1000-100*group+10*pair+10, 1+pair%2+i%2*2))
	}
	return l
}

// dense makes a fit list of as many timers as asked for, with nothing between
// them: each Kind of each Saga at one At, and so on.
func dense(many int) []api.Timer {
	var l []api.Timer
	for i := range many {
		l = append(l, tm(i/32, i/4+1, i%4+1))
	}
	return l
}

// wantAhead is the reference of the order of two timers.
func wantAhead(x, y api.Timer) bool {
	switch {
	case x.At < y.At:
		return true
	case x.At > y.At:
		return false
	case x.Saga < y.Saga:
		return true
	case x.Saga > y.Saga:
		return false
	}
	return x.Kind < y.Kind
}

// wantValid is the reference of what a timer must be.
func wantValid(x api.Timer) bool {
	switch x.Kind {
	case 1, 2, 3, 4:
		return x.At >= 0 && x.At <= most && x.Saga > 0 && x.Saga <= most
	}
	return false
}

// wantFit is the reference of Fit: each condition for all timers and all pairs.
func wantFit(l []api.Timer) bool {
	if len(l) > full {
		return false
	}
	is := true
	for i, x := range l {
		is = is && wantValid(x)
		for _, y := range l[:i] {
			is = is && wantAhead(y, x) && (x.Saga != y.Saga || x.Kind != y.Kind)
		}
	}
	return is
}

// goodAts are Ats that a timer may have.
func goodAts() []int {
	return []int{0, 1, 2, 3, 100, 1 << 31, 1<<32 - 1, 1 << 32, 1<<32 + 1, most - 257, most - 256, most - 255, most - 1, most}
}

// badAts are Ats that no timer may have.
func badAts() []int {
	return []int{-1, -2, -most, -1 << 32, -1<<32 + 1, -1 << 62, math.MinInt + 1, math.MinInt, most + 1, most + 2, 2 * most, 1 << 62, math.MaxInt - 1, math.MaxInt}
}

// goodSagas are Sagas that a timer may have.
func goodSagas() []int { return goodAts()[1:] }

// badSagas are Sagas that no timer may have.
func badSagas() []int { return append([]int{0}, badAts()...) }

// badKinds are Kinds that no timer may have.
func badKinds() []int {
	return append([]int{0, 5, 6, 8, 100, 256, 257, 260, 1 << 32, 1<<32 + 1, 1<<32 + 4, most - 1, most, math.MinInt + 1, math.MinInt + 4}, badAts()...)
}

// badTimers are timers that are not valid, each for one reason, but the first
// ones. What is not the reason is as in the timer that is handed in.
func badTimers(x api.Timer) []api.Timer {
	l := []api.Timer{{}, tm(-1, 0, 0), tm(most+1, most+1, 5), tm(x.At, 0, 0), tm(-1, x.Saga, 0), tm(-1, 0, x.Kind)}
	for _, at := range badAts() {
		l = append(l, tm(at, x.Saga, x.Kind))
	}
	for _, saga := range badSagas() {
		l = append(l, tm(x.At, saga, x.Kind))
	}
	for _, kind := range badKinds() {
		l = append(l, tm(x.At, x.Saga, kind))
	}
	return l
}

// unfit are lists that are not fit, each for one reason: one timer that is not
// valid, at each place; too many timers; a wrong order; one twice.
func unfit() [][]api.Timer {
	l := [][]api.Timer{some(65), some(66), dense(65), dense(128), some(88), make([]api.Timer, 1), make([]api.Timer, 65)}
	for _, many := range []int{1, 2, 3, 9, 63, 64} {
		for at := range many {
			for _, x := range badTimers(some(many)[at]) {
				bad := some(many)
				bad[at] = x
				l = append(l, bad)
			}
		}
	}
	return slices.Concat(l, disordered(), doubled())
}

// disordered are lists that are not fit for their order alone.
func disordered() [][]api.Timer {
	l := [][]api.Timer{
		{tm(1, 1, 1), tm(0, 2, 2)}, {tm(most, 1, 1), tm(0, 2, 2)}, {tm(most, 1, 1), tm(most-1, most, 4)}, {tm(1<<32, 1, 1), tm(1, 2, 2)},
		{tm(5, 2, 1), tm(5, 1, 2)}, {tm(5, 2, 1), tm(5, 1, 1)}, {tm(5, most, 1), tm(5, 1, 4)}, {tm(5, 1<<32+1, 1), tm(5, 2, 4)},
		{tm(5, 1, 2), tm(5, 1, 1)}, {tm(5, 1, 4), tm(5, 1, 3)}, {tm(5, most, 4), tm(5, most, 1)}, {tm(0, 1, 3), tm(0, 1, 2)},
	}
	for _, many := range []int{2, 3, 9, 17, 64} {
		for _, whole := range [][]api.Timer{some(many), dense(many)} {
			back := slices.Clone(whole)
			slices.Reverse(back)
			l = append(l, back)
			for at := 1; at < many; at++ {
				swapped := slices.Clone(whole)
				swapped[at], swapped[at-1] = swapped[at-1], swapped[at]
				turned := append(slices.Clone(whole[at:]), whole[:at]...)
				l = append(l, swapped, turned)
			}
		}
	}
	return l
}

// doubled are lists that are not fit for a Saga and Kind that are there twice.
func doubled() [][]api.Timer {
	l := [][]api.Timer{
		{tm(5, 1, 1), tm(5, 1, 1)}, {tm(0, 1, 1), tm(1, 1, 1)}, {tm(0, most, 4), tm(most, most, 4)},
		{tm(1, 1, 1), tm(2, 1, 2), tm(3, 1, 1)}, {tm(1, 7, 3), tm(2, 8, 3), tm(3, 7, 3)}, {tm(1, 7, 3), tm(2, 8, 4), tm(3, 9, 1), tm(4, 7, 3)},
	}
	for _, many := range []int{2, 3, 9, 64} {
		for first := range many {
			for next := first + 1; next < many; next++ {
				one := some(many)
				// The later one alone comes to a time of its own, so the order stays.
				for i := next; i < many; i++ {
					one[i].At += 5
				}
				one[next] = tm(one[next].At-4, one[first].Saga, one[first].Kind)
				l = append(l, one)
			}
		}
		for at := 1; at < many; at++ {
			twice := some(many)
			twice[at] = twice[at-1]
			l = append(l, twice)
		}
	}
	return l
}

// short writes a list for a message, but not more of it than can be read.
func short(l []api.Timer) string {
	var s strings.Builder
	s.WriteString(strconv.Itoa(len(l)) + " timers:")
	for i, x := range l {
		if i == 66 {
			s.WriteString(" and more")
			break
		}
		s.WriteString(" " + strconv.Itoa(x.At) + "/" + strconv.Itoa(x.Saga) + "/" + strconv.Itoa(x.Kind))
	}
	return s.String()
}

// checkFit holds Fit against what is wanted, and against its reference.
func checkFit(t *testing.T, l []api.Timer, want bool) {
	t.Helper()
	if got := timer.Fit(l); got != want || got != wantFit(l) {
		t.Errorf("Fit of %s is %t", short(l), got)
	}
}

// TestFit is of P16.1: lists that are fit, of each length, and too long ones.
func TestFit(t *testing.T) {
	checkFit(t, nil, true)
	checkFit(t, []api.Timer{}, true)
	checkFit(t, make([]api.Timer, 0, 100), true)
	for many := range 65 {
		checkFit(t, some(many), true)
		checkFit(t, dense(many), true)
	}
	for many := 65; many < 89; many++ {
		checkFit(t, some(many), false)
		checkFit(t, dense(many), false)
	}
	checkFit(t, dense(1<<12), false)
	checkFit(t, dense(128)[32:96], true)
	checkFit(t, dense(128)[31:96], false)
}

// TestFitOfOne is of P16.1: each number of a timer at and beside its edges.
func TestFitOfOne(t *testing.T) {
	for kind := 1; kind <= 4; kind++ {
		for _, at := range goodAts() {
			for _, saga := range goodSagas() {
				checkFit(t, []api.Timer{tm(at, saga, kind)}, true)
			}
		}
	}
	for _, x := range []api.Timer{tm(5, 3, 2), tm(0, 1, 1), tm(most, most, 4), tm(1, 1, 1), tm(0, 1, 4)} {
		for _, bad := range badTimers(x) {
			checkFit(t, []api.Timer{bad}, false)
		}
	}
	for at := -3; at < 4; at++ {
		for saga := -3; saga < 4; saga++ {
			for kind := -3; kind < 8; kind++ {
				checkFit(t, []api.Timer{tm(at, saga, kind)}, at >= 0 && saga >= 1 && kind >= 1 && kind <= 4)
				checkFit(t, []api.Timer{tm(most+at, most+saga, kind)}, at <= 0 && saga <= 0 && kind >= 1 && kind <= 4)
			}
		}
	}
}

// TestFitOfTwo is of P16.1: two timers, each pair of numbers at the edges and
// beside them.
func TestFitOfTwo(t *testing.T) {
	numbers := []int{-1, 0, 1, 2, 3, 4, 5, 1 << 32, 1<<32 + 1, most - 1, most, most + 1}
	for _, x := range numbers {
		for _, y := range numbers {
			isAt := x >= 0 && y >= 0 && x <= most && y <= most
			isSaga := isAt && x > 0 && y > 0
			isKind := isSaga && x <= 4 && y <= 4
			checkFit(t, []api.Timer{tm(x, 1, 1), tm(y, 1, 2)}, isAt && x <= y)
			checkFit(t, []api.Timer{tm(x, 1, 2), tm(y, 2, 1)}, isAt && x <= y)
			checkFit(t, []api.Timer{tm(x, 2, 1), tm(y, 1, 1)}, isAt && x < y)
			checkFit(t, []api.Timer{tm(x, 1, 2), tm(y, 1, 1)}, isAt && x < y)
			checkFit(t, []api.Timer{tm(x, 1, 1), tm(y, 1, 1)}, false)
			checkFit(t, []api.Timer{tm(5, x, 1), tm(5, y, 2)}, isSaga && x <= y)
			checkFit(t, []api.Timer{tm(5, x, 2), tm(5, y, 1)}, isSaga && x < y)
			checkFit(t, []api.Timer{tm(5, x, 1), tm(5, y, 1)}, isSaga && x < y)
			checkFit(t, []api.Timer{tm(5, x, 1), tm(6, y, 1)}, isSaga && x != y)
			checkFit(t, []api.Timer{tm(6, x, 1), tm(5, y, 1)}, false)
			checkFit(t, []api.Timer{tm(5, 3, x), tm(5, 3, y)}, isKind && x < y)
			checkFit(t, []api.Timer{tm(5, 3, x), tm(6, 3, y)}, isKind && x != y)
			checkFit(t, []api.Timer{tm(5, 3, x), tm(5, 4, y)}, isKind)
			checkFit(t, []api.Timer{tm(5, 4, x), tm(5, 3, y)}, false)
		}
	}
}

// TestFitOfUnfit is of P16.1: lists that are not fit, for each reason.
func TestFitOfUnfit(t *testing.T) {
	for _, l := range unfit() {
		checkFit(t, l, false)
	}
}

// TestFitOfDoubled is of P16.1: a Saga and Kind that are there twice are the only
// reason, so without either of the two the list is fit, and without another not.
func TestFitOfDoubled(t *testing.T) {
	for _, l := range doubled() {
		for i, x := range l {
			again := 0
			for _, y := range l {
				if y.Saga == x.Saga && y.Kind == x.Kind {
					again++
				}
			}
			checkFit(t, slices.Delete(slices.Clone(l), i, i+1), again == 2)
		}
	}
	checkFit(t, []api.Timer{tm(1, 1, 1), tm(2, 1, 2), tm(3, 2, 1)}, true)
	checkFit(t, []api.Timer{tm(1, 1, 1), tm(2, 1, 2), tm(3, 1, 3)}, true)
	checkFit(t, []api.Timer{tm(1, 2, 1), tm(2, 1, 2), tm(3, 1, 1)}, true)
}

// TestFitOfEach is of P16.1: all lists of up to three timers that have small
// numbers.
func TestFitOfEach(t *testing.T) {
	var small []api.Timer
	for at := -1; at <= 1; at++ {
		for saga := 0; saga <= 2; saga++ {
			for kind := 0; kind <= 5; kind++ {
				small = append(small, tm(at, saga, kind))
			}
		}
	}
	var fit [4]int
	var all func(l []api.Timer)
	all = func(l []api.Timer) {
		is := wantFit(l)
		checkFit(t, l, is)
		if is {
			fit[len(l)]++
		}
		if len(l) == 3 {
			return
		}
		for _, x := range small {
			all(append(l[:len(l):len(l)], x))
		}
	}
	all(nil)
	// Of the eight Sagas and Kinds there are, some are chosen, each at 0 or at 1.
	if fit != [4]int{1, 8 * 2, 28 * 4, 56 * 8} {
		t.Errorf("of each length are fit: %v", fit)
	}
}
