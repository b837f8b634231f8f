package inbox_test

import (
	"math"
	"slices"
	"strconv"
	"strings"
	"testing"

	"drayman/api"
	"drayman/inbox"
)

const (
	most = 1 << 40
	full = 16
)

// box makes a box with these numbers above.
func box(service, low int, above ...int) api.Box {
	return api.Box{Service: service, Low: low, Above: above}
}

// from are as many numbers as asked for, from the first one on.
func from(first, many, apart int) []int {
	var l []int
	for i := range many {
		l = append(l, first+i*apart)
	}
	return l
}

// sparse makes a fit box with as many numbers above as asked for, and room
// between any two; and one that is too long if more are asked for than may be.
func sparse(many int) api.Box { return box(1, 100, from(110, many, 10)...) }

// dense makes such a box whose numbers above are a row without a gap.
func dense(many int) api.Box { return box(2, 5, from(7, many, 1)...) }

// low makes such a box that begins at the least numbers, with rows of three.
func low(many int) api.Box {
	b := box(2, 0)
	for i := range many {
		b.Above = append(b.Above, 2+i+i/3)
	}
	return b
}

// high makes such a box that ends with the greatest number.
func high(many int) api.Box {
	if many == 0 {
		return box(1, most)
	}
	return box(1, most-many-1, from(most-many+1, many, 1)...)
}

// wide makes such a box whose numbers above differ in more than their last 32
// bits.
func wide(many int) api.Box { return box(1, 3, from(1<<32+3, many, 1<<33)...) }

// kinds are boxes of each kind with as many numbers above as asked for.
func kinds(many int) []api.Box {
	return []api.Box{sparse(many), dense(many), low(many), high(many), wide(many)}
}

// copied is a box with a list of its own.
func copied(b api.Box) api.Box {
	b.Above = slices.Clone(b.Above)
	return b
}

// with is a box in which something is changed.
func with(b api.Box, change func(b *api.Box)) api.Box {
	b = copied(b)
	change(&b)
	return b
}

// equal is the reference of Same.
func equal(a, b api.Box) bool {
	if a.Service != b.Service || a.Low != b.Low || len(a.Above) != len(b.Above) {
		return false
	}
	for i := range a.Above {
		if a.Above[i] != b.Above[i] {
			return false
		}
	}
	return true
}

// amount reports whether n is an amount.
func amount(n int) bool { return 0 <= n && n <= most }

// wantFit is the reference of Fit: each condition for all numbers and all pairs.
func wantFit(b api.Box) bool {
	is := (b.Service == 1 || b.Service == 2) && amount(b.Low) && len(b.Above) <= full
	for i, x := range b.Above {
		is = is && amount(x) && x > b.Low && x-1 > b.Low
		for _, y := range b.Above[:i] {
			is = is && y < x
		}
	}
	return is
}

// badAmounts are numbers that are no amounts.
func badAmounts() []int {
	return []int{-1, -2, -most, -most - 1, -1 << 32, -1<<32 + 1, -1 << 62, math.MinInt + 1, math.MinInt, most + 1, most + 2, 2 * most, 1 << 62, math.MaxInt - 1, math.MaxInt}
}

// goodAmounts are amounts at and beside their edges.
func goodAmounts() []int {
	return []int{0, 1, 2, 3, 15, 16, 17, 100, 255, 256, 257, 1<<31 - 1, 1 << 31, 1<<32 - 1, 1 << 32, 1<<32 + 1, most - 257, most - 256, most - 17, most - 3, most - 2, most - 1, most}
}

// badServices are numbers that are no services.
func badServices() []int {
	return append([]int{0, 3, 4, 5, 8, 16, 100, 255, 256, 257, 258, 1 << 32, 1<<32 + 1, 1<<32 + 2, most, most - 1, math.MinInt + 2}, badAmounts()...)
}

// unfit are boxes that are not fit, each for some reason.
func unfit() []api.Box {
	l := []api.Box{{}, {Low: 1}, {Above: []int{2}}}
	for _, many := range []int{0, 1, 2, 3, 9, 15, 16} {
		for _, b := range kinds(many) {
			for _, n := range badServices() {
				l = append(l, with(b, func(b *api.Box) { b.Service = n }))
			}
			for _, n := range badAmounts() {
				l = append(l, with(b, func(b *api.Box) { b.Low = n }))
			}
			for at := range many {
				for _, n := range badAmounts() {
					l = append(l, with(b, func(b *api.Box) { b.Above[at] = n }))
				}
				for _, by := range []int{-2, -1, 0, 1} {
					l = append(l, with(b, func(b *api.Box) { b.Above[at] = b.Low + by }))
				}
			}
		}
	}
	return slices.Concat(l, long(), raised(), disordered())
}

// long are boxes that are not fit for the length of their lists alone.
func long() []api.Box {
	var l []api.Box
	for many := 17; many < 24; many++ {
		l = append(l, kinds(many)...)
	}
	return append(l, dense(32), sparse(33), low(64), high(257), dense(256), dense(272), dense(1<<12))
}

// raised are boxes that are not fit for their Low alone: some of the numbers
// above, or all, are not greater than Low + 1.
func raised() []api.Box {
	var l []api.Box
	for _, many := range []int{1, 2, 3, 9, 15, 16} {
		for _, b := range kinds(many) {
			for _, n := range b.Above {
				l = append(l, with(b, func(b *api.Box) { b.Low = n - 1 }), with(b, func(b *api.Box) { b.Low = n }), with(b, func(b *api.Box) { b.Low = min(n+1, most) }))
			}
			l = append(l, with(b, func(b *api.Box) { b.Low = most }), with(b, func(b *api.Box) { b.Low = most - 1 }))
		}
	}
	return l
}

// disordered are boxes that are not fit for the order of their numbers alone.
func disordered() []api.Box {
	l := []api.Box{
		box(1, 0, 2, 2), box(1, 0, 3, 2), box(2, 0, most, 2), box(2, 0, most, most), box(1, 0, most, most-1), box(2, 0, 1<<32, 2),
		box(1, 0, 1<<32+2, 3), box(1, 0, 1<<32+2, 2), box(2, 0, 5, 3, 4), box(2, 0, 3, 5, 4), box(1, 0, 3, 4, 3), box(1, 0, 4, 3, 5),
	}
	for _, many := range []int{2, 3, 9, 15, 16} {
		for _, b := range kinds(many) {
			l = append(l, with(b, func(b *api.Box) { slices.Reverse(b.Above) }))
			for at := 1; at < many; at++ {
				l = append(l,
					with(b, func(b *api.Box) { b.Above[at], b.Above[at-1] = b.Above[at-1], b.Above[at] }),
					with(b, func(b *api.Box) { b.Above = slices.Concat(b.Above[at:], b.Above[:at]) }),
					with(b, func(b *api.Box) { b.Above[at] = b.Above[at-1] }),
					with(b, func(b *api.Box) { b.Above[at-1] = b.Above[at] }),
				)
			}
		}
	}
	return l
}

// short writes a box for a message, but not more of it than can be read.
func short(b api.Box) string {
	var s strings.Builder
	s.WriteString("{" + strconv.Itoa(b.Service) + " " + strconv.Itoa(b.Low) + ":")
	for i, n := range b.Above {
		if i == 18 {
			s.WriteString(" and up to " + strconv.Itoa(len(b.Above)))
			break
		}
		s.WriteString(" " + strconv.Itoa(n))
	}
	return s.String() + "}"
}

// laid lays the list of a box into a longer array, so that something lies ahead
// of it and behind it. It tells whether all of that is still as it was.
func laid(b api.Box) (api.Box, func() bool) {
	around := []int{-5, -6, -7}
	array := slices.Concat(around, b.Above, around)
	before := slices.Clone(array)
	b.Above = array[3 : 3+len(b.Above)]
	return b, func() bool { return slices.Equal(array, before) }
}

// spoil overwrites the list of a box and what lies behind its length.
func spoil(b api.Box) {
	l := b.Above[:cap(b.Above)]
	for i := range l {
		l[i] = -9
	}
}

// checkFit holds Fit against what is wanted, and against its reference.
func checkFit(t *testing.T, b api.Box, want bool) {
	t.Helper()
	b, asItWas := laid(b)
	if got := inbox.Fit(b); got != want || got != wantFit(b) {
		t.Errorf("Fit of %s is %t", short(b), got)
	}
	if !asItWas() {
		t.Fatalf("Fit changed %s", short(b))
	}
}

// TestFit is of P18.1: boxes that are fit, of each length, and too long ones.
func TestFit(t *testing.T) {
	for _, service := range []int{api.Pay, api.Carry} {
		checkFit(t, box(service, 0), true)
		if !inbox.Fit(api.Box{Service: service}) || !inbox.Fit(api.Box{Service: service, Above: []int{}}) || !inbox.Fit(api.Box{Service: service, Above: make([]int, 0, 100)}) {
			t.Errorf("a box of %d with nothing is not fit", service)
		}
	}
	for many := range 17 {
		for _, b := range kinds(many) {
			for _, service := range []int{1, 2} {
				checkFit(t, with(b, func(b *api.Box) { b.Service = service }), true)
			}
		}
	}
	for _, b := range long() {
		checkFit(t, b, false)
		// The same numbers are fit where there are as many as may be.
		checkFit(t, with(b, func(b *api.Box) { b.Above = b.Above[len(b.Above)-full:] }), true)
		checkFit(t, with(b, func(b *api.Box) { b.Above = b.Above[:full] }), true)
	}
}

// TestFitOfService is of P18.1: each number as a Service.
func TestFitOfService(t *testing.T) {
	fit := 0
	for service := -300; service < 300; service++ {
		is := service == 1 || service == 2
		checkFit(t, box(service, 0), is)
		checkFit(t, box(service, 3, 5, 9), is)
		if inbox.Fit(box(service, 1)) {
			fit++
		}
	}
	if fit != 2 {
		t.Errorf("fit are %d", fit)
	}
	for _, service := range badServices() {
		checkFit(t, box(service, 0), false)
		checkFit(t, box(service, most), false)
	}
}

// TestFitOfLow is of P18.1: each Low at and beside the edges, without numbers
// above and with one that is greater than any Low allows for, or just not.
func TestFitOfLow(t *testing.T) {
	for _, n := range goodAmounts() {
		checkFit(t, box(1, n), true)
		checkFit(t, box(2, n), true)
		checkFit(t, box(1, n, n), false)
		checkFit(t, box(1, n, n+1), false)
		checkFit(t, box(1, n, n+2), n+2 <= most)
		checkFit(t, box(1, n, most), n+1 < most)
		checkFit(t, box(1, n, most+1), false)
	}
	for _, n := range badAmounts() {
		checkFit(t, box(1, n), false)
		checkFit(t, box(2, n), false)
		checkFit(t, box(1, n, most), false)
		checkFit(t, box(1, n, 2), false)
		checkFit(t, box(1, n, 1), false)
		checkFit(t, box(1, 0, n), false)
	}
}

// TestFitOfUnfit is of P18.1: boxes that are not fit, for each reason.
func TestFitOfUnfit(t *testing.T) {
	for _, b := range unfit() {
		checkFit(t, b, false)
	}
}

// TestFitOfTwo is of P18.1: a Low and two numbers above, at all edges.
func TestFitOfTwo(t *testing.T) {
	all := append(goodAmounts(), badAmounts()...)
	for _, n := range all {
		for _, x := range all {
			checkFit(t, box(2, n, x), wantFit(box(2, n, x)))
			for _, y := range all {
				is := amount(n) && amount(x) && amount(y) && n < x-1 && x < y
				checkFit(t, box(1, n, x, y), is)
			}
		}
	}
}

// TestFitOfEach is of P18.1: each small Low, and all lists of up to four small
// numbers.
func TestFitOfEach(t *testing.T) {
	for n := -2; n < 5; n++ {
		var fit [5]int
		var all func(l []int)
		all = func(l []int) {
			is := wantFit(box(1, n, l...))
			checkFit(t, box(1, n, l...), is)
			if is {
				fit[len(l)]++
			}
			if len(l) == 4 {
				return
			}
			for x := -1; x < 8; x++ {
				all(append(l[:len(l):len(l)], x))
			}
		}
		all(nil)
		// Of the numbers from n + 2 to 7 some are chosen.
		want := [][5]int{{1, 6, 15, 20, 15}, {1, 5, 10, 10, 5}, {1, 4, 6, 4, 1}, {1, 3, 3, 1, 0}, {1, 2, 1, 0, 0}}
		if n >= 0 && fit != want[n] || n < 0 && fit != [5]int{} {
			t.Errorf("above %d of each length are fit: %v", n, fit)
		}
	}
}
