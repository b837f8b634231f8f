package holds_test

import (
	"math"
	"regexp"
	"slices"
	"strconv"
	"strings"
	"testing"

	"drayman/api"
	"drayman/holds"
)

const (
	most     = 1 << 40
	maxQty   = 1 << 20
	maxSagas = 16
)

// nameForm is the form of a name, as chapter 2 defines it.
var nameForm = regexp.MustCompile(`^[a-z0-9\x{df}-\x{f6}\x{f8}-\x{ff}][-a-z0-9\x{df}-\x{f6}\x{f8}-\x{ff}]{0,11}$`)

// of makes lines of Skus and numbers: "salt 1, tea 5".
func of(s string) []api.Line {
	var l []api.Line
	for _, part := range strings.Split(s, ", ") {
		sku, digits, _ := strings.Cut(part, " ")
		n, err := strconv.Atoi(digits)
		if err != nil {
			panic(err)
		}
		l = append(l, api.Line{Sku: sku, N: n})
	}
	return l
}

// hold makes a hold of a saga, with lines as of makes them.
func hold(saga int, until int, s string) api.Hold {
	return api.Hold{Saga: saga, Lines: of(s), Until: until}
}

// some makes a fit list of as many holds as asked for, and of more than may be
// too. Their Sagas are 10, 20 and so on.
func some(many int) []api.Hold {
	var l []api.Hold
	for i := range many {
		h := hold(10*i+10, i*7%5, "salt "+strconv.Itoa(i+1)+", tea "+strconv.Itoa(100+i))
		l = append(l, h)
	}
	return l
}

// copyOf is a list with memory of its own, made without the package.
func copyOf(l []api.Hold) []api.Hold {
	copied := make([]api.Hold, len(l))
	for i, h := range l {
		copied[i] = h
		copied[i].Lines = make([]api.Line, len(h.Lines))
		copy(copied[i].Lines, h.Lines)
	}
	return copied
}

// equalHold reports whether two holds are equal, nil and empty lines too.
func equalHold(x, y api.Hold) bool {
	return x.Saga == y.Saga && x.Until == y.Until && slices.Equal(x.Lines, y.Lines)
}

// equal reports whether two lists are equal, nil and empty ones too.
func equal(a, b []api.Hold) bool { return slices.EqualFunc(a, b, equalHold) }

// wantPossible is the reference of what a hold of a fit list must be.
func wantPossible(h api.Hold) bool {
	if len(h.Lines) < 1 || len(h.Lines) > 4 {
		return false
	}
	is := h.Saga >= 1 && h.Saga <= most && h.Until >= 0 && h.Until <= most
	for i, x := range h.Lines {
		is = is && nameForm.MatchString(x.Sku) && x.N >= 1 && x.N <= maxQty
		for j := range i {
			is = is && strings.Compare(h.Lines[j].Sku, x.Sku) < 0
		}
	}
	return is
}

// wantFit is the reference of Fit: each condition for all holds.
func wantFit(l []api.Hold) bool {
	if len(l) > maxSagas {
		return false
	}
	is := true
	for i := range l {
		is = is && wantPossible(l[i])
		for j := range i {
			is = is && l[j].Saga < l[i].Saga
		}
	}
	return is
}

// goodSagas are Sagas that a hold may have.
func goodSagas() []int {
	return []int{1, 2, 3, 16, 17, maxQty, maxQty + 1, 1 << 32, 1<<32 + 1, most - 1, most}
}

// badSagas are Sagas that no hold may have.
func badSagas() []int {
	return []int{0, -1, -2, -most, -1 << 32, -1<<32 + 1, -1 << 62, math.MinInt + 1, math.MinInt, most + 1, most + 2, 2 * most, 1 << 62, math.MaxInt - 1, math.MaxInt}
}

// goodUntils are Untils that a hold may have.
func goodUntils() []int { return append([]int{0}, goodSagas()...) }

// badUntils are Untils that no hold may have.
func badUntils() []int { return badSagas()[1:] }

// goodLines are lines that a hold may have.
func goodLines() [][]api.Line {
	return [][]api.Line{of("tea 1"), of("tea 3"), of("tea 1048576"), of("salt 1, tea 5"), of("a 1, b 2, c 3"), of("a 1, b 2, c 3, d 4"), of("a 1048576, b 1048576, c 1048576, d 1048576"),
		of("0 1"), of("a- 1, a0 1, aa 1, aä 1"), of("z 1, ß 1, ä 2, ÿ 3"), of(strings.Repeat("ä", 12) + " 9"), of("abcdefghijkl 1"), of("tea 1, teas 1"), of("äöü 7")}
}

// badLines are lines that no hold may have, each for one reason.
func badLines() [][]api.Line {
	l := [][]api.Line{nil, {}, of("a 1, b 2, c 3, d 4, e 5"), of("tea 1, salt 1"), of("tea 1, tea 1"), of("tea 1, tea 2"), of("a 1, b 1, d 1, c 1"), of("a 1, b 1, c 1, a 1"), of("ä 1, z 1"),
		of("tea 0"), of("tea -1"), of("tea 1048577"), of("a 1, b 0"), of("a 0, b 1"), of("a 1, b 1, c 1, d 1048577"), of("a 1, b 1, c 1, d -9223372036854775808"), of("tea 9223372036854775807"), of("tea 4294967297"), of("tea 1099511627776"),
		{{Sku: "a b", N: 1}}, {{Sku: "", N: 1}}, {{}}, {{Sku: "a", N: 1}, {}}, of("Tea 1"), of("-a 1"), of("a 1, Ä 1"), of("abcdefghijklm 1"), of(strings.Repeat("ä", 13) + " 1"), of("\xff 1"), of("a 1, b 1, c 1, d\x00 1"), of("÷ 1"), of("€ 1")}
	return append(l, slices.Repeat(of("tea 1"), 30), make([]api.Line, 100))
}

// goodHolds are holds that a fit list may have, all of one saga or more.
func goodHolds() []api.Hold {
	var l []api.Hold
	for _, saga := range goodSagas() {
		l = append(l, hold(saga, 0, "tea 3"))
	}
	for _, until := range goodUntils() {
		l = append(l, hold(5, until, "tea 3"))
	}
	for _, x := range goodLines() {
		l = append(l, api.Hold{Saga: 5, Lines: x, Until: 9})
	}
	return l
}

// badHolds are holds that no fit list has, each for one reason, but the first
// ones. Their Sagas, where these are not the reason, are the one asked for.
func badHolds(saga int) []api.Hold {
	l := []api.Hold{{}, {Saga: 0, Lines: of("tea 0"), Until: -1}, {Saga: saga}}
	for _, n := range badSagas() {
		l = append(l, hold(n, 0, "tea 3"), hold(n, 5, "salt 1, tea 3"))
	}
	for _, until := range badUntils() {
		l = append(l, hold(saga, until, "tea 3"))
	}
	for _, x := range badLines() {
		l = append(l, api.Hold{Saga: saga, Lines: x}, api.Hold{Saga: saga, Lines: x, Until: 5})
	}
	return l
}

// unfit are lists that are not fit, each for one reason: one hold that may not
// be, at each place; too many holds; Sagas that do not ascend.
func unfit() [][]api.Hold {
	l := [][]api.Hold{some(17), some(18), some(32), some(100), make([]api.Hold, 1), make([]api.Hold, 17)}
	for _, many := range []int{1, 2, 3, 16} {
		for at := range many {
			for _, h := range badHolds(10*at + 10) {
				x := some(many)
				x[at] = h
				l = append(l, x)
			}
		}
	}
	return append(l, disordered()...)
}

// disordered are lists that are not fit for the order of their Sagas alone.
func disordered() [][]api.Hold {
	var l [][]api.Hold
	for _, many := range []int{2, 3, 5, 16} {
		back := some(many)
		slices.Reverse(back)
		l = append(l, back)
		for at := 1; at < many; at++ {
			twice, swapped, first, last := some(many), some(many), some(many), some(many)
			twice[at].Saga = twice[at-1].Saga
			swapped[at].Saga, swapped[at-1].Saga = swapped[at-1].Saga, swapped[at].Saga
			first[at].Saga = first[0].Saga
			last[at-1].Saga = last[many-1].Saga
			l = append(l, twice, swapped, first, last)
		}
	}
	return append(l, []api.Hold{hold(most, 0, "tea 1"), hold(most, 0, "tea 1")}, []api.Hold{hold(1, 0, "tea 1"), hold(1, 0, "tea 1")}, []api.Hold{hold(most, 0, "tea 1"), hold(1, 0, "tea 1")})
}

// short writes a list for a message, but not more of it than can be read.
func short(l []api.Hold) string {
	var s strings.Builder
	s.WriteString(strconv.Itoa(len(l)) + " holds:")
	for i, h := range l {
		if i == 18 {
			s.WriteString(" and more")
			break
		}
		s.WriteString(" saga " + strconv.Itoa(h.Saga) + " until " + strconv.Itoa(h.Until) + " of " + strconv.Itoa(len(h.Lines)) + " [")
		for _, x := range h.Lines[:min(len(h.Lines), 6)] {
			s.WriteString(" " + strconv.Quote(x.Sku[:min(len(x.Sku), 30)]) + " " + strconv.Itoa(x.N))
		}
		s.WriteString(" ]")
	}
	return s.String()
}

// checkFit holds Fit against what is wanted, and against its reference.
func checkFit(t *testing.T, l []api.Hold, want bool) {
	t.Helper()
	if got := holds.Fit(l); got != want || got != wantFit(l) {
		t.Errorf("Fit of %s is %t", short(l), got)
	}
}

// TestFit is of P13.1: lists that are fit, of each length.
func TestFit(t *testing.T) {
	checkFit(t, nil, true)
	checkFit(t, []api.Hold{}, true)
	for many := range 17 {
		checkFit(t, some(many), true)
		for at := range many {
			for _, x := range goodLines() {
				l := some(many)
				l[at].Lines = x
				checkFit(t, l, true)
			}
			for _, until := range goodUntils() {
				l := some(many)
				l[at].Until = until
				checkFit(t, l, true)
			}
		}
	}
	for _, h := range goodHolds() {
		checkFit(t, []api.Hold{h}, true)
	}
	for many := 17; many < 70; many++ {
		checkFit(t, some(many), false)
	}
}

// TestFitOfSagas is of P13.1: the Sagas of one hold and of two at and beside
// the edges.
func TestFitOfSagas(t *testing.T) {
	all := append(goodSagas(), badSagas()...)
	for _, a := range all {
		is := a >= 1 && a <= most
		checkFit(t, []api.Hold{hold(a, 0, "tea 1")}, is)
		for _, b := range all {
			checkFit(t, []api.Hold{hold(a, 0, "tea 1"), hold(b, 0, "tea 1")}, is && b > a && b <= most)
		}
	}
	dense := some(16)
	for i := range dense {
		dense[i].Saga = i + 1
	}
	checkFit(t, dense, true)
	for i := range dense {
		dense[i].Saga = most - 15 + i
	}
	checkFit(t, dense, true)
	dense[0].Saga = most - 14
	checkFit(t, dense, false)
}

// TestFitOfUnfit is of P13.1: lists that are not fit, for each reason.
func TestFitOfUnfit(t *testing.T) {
	for _, h := range badHolds(5) {
		checkFit(t, []api.Hold{h}, false)
	}
	for _, l := range unfit() {
		checkFit(t, l, false)
	}
	checkFit(t, some(1<<16), false)
	checkFit(t, make([]api.Hold, 1<<16), false)
	checkFit(t, []api.Hold{{Saga: 1, Lines: slices.Repeat(of("tea 1"), 1<<16)}}, false)
	checkFit(t, []api.Hold{{Saga: 1, Lines: []api.Line{{Sku: strings.Repeat("a", 1<<20), N: 1}}}}, false)
}

// smallHolds are holds with small numbers, of which a list may have some.
func smallHolds() []api.Hold {
	var l []api.Hold
	for saga := -1; saga <= 4; saga++ {
		for until := -1; until <= 1; until++ {
			for _, x := range []string{"tea 1", "salt 2, tea 1", "tea 0", "tea 1, salt 2"} {
				l = append(l, hold(saga, until, x))
			}
		}
	}
	return l
}

// TestFitOfEach is of P13.1: all lists of up to three holds that have small
// numbers.
func TestFitOfEach(t *testing.T) {
	var fit [4]int
	var all func(l []api.Hold)
	all = func(l []api.Hold) {
		is := wantFit(l)
		checkFit(t, l, is)
		if is {
			fit[len(l)]++
		}
		if len(l) == 3 {
			return
		}
		for _, h := range smallHolds() {
			all(append(l[:len(l):len(l)], h))
		}
	}
	all(nil)
	// The Sagas are of 1 to 4; each hold has two Untils and two lists of lines.
	if fit != [4]int{1, 4 * 4, 6 * 4 * 4, 4 * 4 * 4 * 4} {
		t.Errorf("of each length are fit: %v", fit)
	}
}

// checkFind holds Find against its reference, and what is found against what is
// turned later.
func checkFind(t *testing.T, l []api.Hold, saga int) {
	t.Helper()
	var want api.Hold
	is := false
	for i := len(l) - 1; i >= 0; i-- {
		if l[i].Saga == saga {
			want, is = l[i], true
		}
	}
	before := copyOf(l)
	got, ok := holds.Find(l, saga)
	if !equalHold(got, want) || ok != is {
		t.Fatalf("Find(%s, %d) is %s, %t", short(l), saga, short([]api.Hold{got}), ok)
	}
	for i := range got.Lines {
		got.Lines[i] = api.Line{Sku: "turned", N: -7}
	}
	_ = append(got.Lines, api.Line{Sku: "more", N: -8})
	if !equal(l, before) {
		t.Fatalf("Find(%s, %d) shares lines with the list", short(before), saga)
	}
}

// TestFind is of P13.1: each hold of lists of each length, and what is ahead of
// all, behind all and between two.
func TestFind(t *testing.T) {
	for many := range 18 {
		l := some(many)
		for saga := -1; saga <= 10*many+21; saga++ {
			checkFind(t, l, saga)
		}
		for _, saga := range append(goodSagas(), badSagas()...) {
			checkFind(t, l, saga)
		}
	}
	for _, saga := range append(goodSagas(), badSagas()...) {
		got, is := holds.Find([]api.Hold{hold(5, 1, "tea 3")}, saga)
		if is || got.Saga != 0 || got.Lines != nil || got.Until != 0 {
			t.Errorf("Find of %d is %v, %t", saga, got, is)
		}
	}
}

// TestFindInUnfit is of P13.1: the first hold of a saga in lists that are not
// fit, in any order, with a Saga that is there twice or may not be.
func TestFindInUnfit(t *testing.T) {
	for _, l := range unfit() {
		checkFind(t, l, 0)
		checkFind(t, l, 5)
		checkFind(t, l, -1)
		for _, h := range l {
			checkFind(t, l, h.Saga)
		}
	}
	twice := []api.Hold{hold(3, 1, "tea 1"), hold(1, 2, "tea 2"), hold(3, 3, "tea 3"), hold(2, 4, "tea 4"), hold(1, 5, "tea 5"), hold(math.MinInt, 6, "tea 0"), hold(0, 7, "Tea 7"), hold(math.MaxInt, -8, "tea 8")}
	for saga, until := range map[int]int{3: 1, 1: 2, 2: 4, math.MinInt: 6, 0: 7, math.MaxInt: -8} {
		if got, is := holds.Find(twice, saga); !is || got.Until != until || got.Saga != saga || len(got.Lines) != 1 {
			t.Errorf("Find of %d is %v, %t", saga, got, is)
		}
		checkFind(t, twice, saga)
	}
	for _, saga := range []int{-1, 4, most} {
		checkFind(t, twice, saga)
	}
	long := slices.Repeat(some(100), 100)
	for _, saga := range []int{10, 1000, 999, 1001, 0} {
		checkFind(t, long, saga)
	}
}

// TestFindHandsOutEmptyLines is of P13.1: a hold without lines is found too.
func TestFindHandsOutEmptyLines(t *testing.T) {
	for _, x := range [][]api.Line{nil, {}, make([]api.Line, 0, 4)} {
		got, is := holds.Find([]api.Hold{{Saga: 1, Lines: x, Until: 3}}, 1)
		if !is || got.Saga != 1 || got.Until != 3 || len(got.Lines) != 0 {
			t.Errorf("Find is %v, %t", got, is)
		}
		_ = append(got.Lines, api.Line{Sku: "turned", N: -7})
		if cap(x) > 0 && x[:1][0] != (api.Line{}) {
			t.Errorf("what is found shares the memory behind the lines")
		}
	}
}
