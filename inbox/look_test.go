package inbox_test

import (
	"math"
	"slices"
	"testing"

	"drayman/api"
	"drayman/inbox"
)

// messy are boxes that are not fit and have numbers more than once, in any
// order, below Low, at it, just above it, or beyond the amounts.
func messy() []api.Box {
	return []api.Box{
		box(1, 5, 9, 2, 7, 9, 5, 6, 1), box(2, 0, 1), box(2, 0, 0), box(1, 3, 3, 3, 4, 4), box(7, 3, 20, 10), box(0, -4, -2, -3, 0, 8),
		box(1, -1), box(1, most+1), box(2, most+1, most+3, most+2), box(1, math.MinInt, math.MinInt+1, math.MaxInt, 0), box(2, math.MaxInt, math.MinInt, 4),
		box(1, math.MinInt), box(-1, math.MaxInt), box(1, 0, 1<<32+5, 5, 261), box(1, 9, slices.Repeat([]int{12, 30, 20}, 200)...),
	}
}

// idsFor are numbers to ask a box for: those of its list, Low, those beside
// them, and those at the edges.
func idsFor(b api.Box) []int {
	ids := []int{math.MinInt, math.MinInt + 1, -most, -1, 0, 1, 2, 3, 257, 1<<32 + 1, 1<<32 + 5, most - 1, most, most + 1, math.MaxInt - 1, math.MaxInt, b.Low - 1, b.Low, b.Low + 1, b.Low + 2}
	for _, n := range b.Above {
		ids = append(ids, n-1, n, n+1, n+1<<32, n-1<<32)
	}
	slices.Sort(ids)
	return slices.Compact(ids)
}

// wantHad is the reference of Had.
func wantHad(b api.Box, id int) bool {
	is := !(id > b.Low)
	for _, n := range b.Above {
		is = is || n == id
	}
	return is
}

// checkHad holds Had against its reference.
func checkHad(t *testing.T, b api.Box, id int) bool {
	t.Helper()
	b, asItWas := laid(b)
	got := inbox.Had(b, id)
	if got != wantHad(b, id) {
		t.Fatalf("Had(%s; %d) is %t", short(b), id, got)
	}
	if !asItWas() {
		t.Fatalf("Had changed %s", short(b))
	}
	return got
}

// TestNew is of P18.1: boxes of Pay, of Carry and of other numbers, which have
// received no Id that there is.
func TestNew(t *testing.T) {
	for _, service := range append([]int{api.Pay, api.Carry}, badServices()...) {
		b := inbox.New(service)
		if b.Service != service || b.Low != 0 || len(b.Above) != 0 {
			t.Errorf("New(%d) is %s", service, short(b))
		}
		for _, id := range idsFor(b) {
			if got := checkHad(t, b, id); id > 0 && got {
				t.Errorf("New(%d) has received %d", service, id)
			}
		}
		for id := 1; id < 300; id++ {
			if inbox.Had(b, id) {
				t.Errorf("New(%d) has received %d", service, id)
			}
		}
		if got, want := inbox.Fit(b), service == 1 || service == 2; got != want {
			t.Errorf("Fit of New(%d) is %t", service, got)
		}
	}
	if !inbox.Same(inbox.New(api.Pay), box(1, 0)) || !inbox.Same(inbox.New(api.Carry), box(2, 0)) || inbox.Same(inbox.New(api.Pay), inbox.New(api.Carry)) {
		t.Errorf("new boxes are other ones")
	}
}

// TestHad is of P18.1: in fit boxes of each length, what is at Low and below,
// each number above, and those beside it.
func TestHad(t *testing.T) {
	for many := range 17 {
		for _, b := range kinds(many) {
			had := 0
			for _, id := range idsFor(b) {
				if checkHad(t, b, id) && id > b.Low {
					had++
				}
			}
			if had != many {
				t.Fatalf("of %s are received %d above", short(b), had)
			}
			for _, id := range []int{math.MinInt, -1, 0, b.Low - 1, b.Low} {
				if !inbox.Had(b, id) {
					t.Fatalf("Had(%s; %d) is false", short(b), id)
				}
			}
			for _, id := range []int{b.Low + 1, most + 1, math.MaxInt} {
				if inbox.Had(b, id) {
					t.Fatalf("Had(%s; %d) is true", short(b), id)
				}
			}
		}
	}
}

// TestHadOfFew is of P18.1: what is received, written out.
func TestHadOfFew(t *testing.T) {
	b := box(1, 3, 5, 6, 9)
	want := [12]bool{0: true, 1: true, 2: true, 3: true, 5: true, 6: true, 9: true}
	for id, is := range want {
		if got := inbox.Had(b, id); got != is {
			t.Errorf("Had(%s; %d) is %t", short(b), id, got)
		}
		if inbox.Had(b, id+12) || inbox.Had(b, id+256) || inbox.Had(b, id+1<<32) || !inbox.Had(b, -id) || !inbox.Had(b, id-1<<32) {
			t.Errorf("numbers %d and far from it are had otherwise", id)
		}
	}
	for id := range 20 {
		if inbox.Had(box(2, 0), id) != (id == 0) || inbox.Had(box(2, 19), id) != true || inbox.Had(box(2, 7), id) != (id < 8) {
			t.Errorf("%d is had otherwise where there is nothing above", id)
		}
	}
	if !inbox.Had(box(1, most), most) || inbox.Had(box(1, most), most+1) || inbox.Had(box(1, most-1), most) || !inbox.Had(box(1, most-2, most), most) || inbox.Had(box(1, most-2, most), most-1) {
		t.Errorf("at the greatest number it is had otherwise")
	}
}

// TestHadOfUnfit is of P18.1: Had asks for no fit box, so what is not greater
// than Low or stands anywhere above has been received.
func TestHadOfUnfit(t *testing.T) {
	for _, b := range messy() {
		for _, id := range idsFor(b) {
			checkHad(t, b, id)
		}
		for _, id := range b.Above {
			if !inbox.Had(b, id) {
				t.Fatalf("Had(%s; %d) is false", short(b), id)
			}
		}
	}
	for _, b := range unfit() {
		for _, id := range []int{0, 1, b.Low - 1, b.Low, b.Low + 1, b.Low + 2, most, most + 1} {
			checkHad(t, b, id)
		}
		if len(b.Above) == 0 {
			continue
		}
		for _, id := range []int{b.Above[0], b.Above[len(b.Above)/2], b.Above[len(b.Above)-1]} {
			if !checkHad(t, b, id) {
				t.Fatalf("Had(%s; %d) is false", short(b), id)
			}
			checkHad(t, b, id-1)
			checkHad(t, b, id+1)
		}
	}
	b := box(1, 5, 20, 2, 10, 20)
	for _, id := range []int{-3, 2, 5, 10, 20} {
		if !inbox.Had(b, id) {
			t.Errorf("Had(%s; %d) is false", short(b), id)
		}
	}
	for _, id := range []int{6, 9, 11, 19, 21} {
		if inbox.Had(b, id) {
			t.Errorf("Had(%s; %d) is true", short(b), id)
		}
	}
}

// checkSame holds Same against its reference, in both directions.
func checkSame(t *testing.T, a, b api.Box, want bool) {
	t.Helper()
	a, one := laid(a)
	b, other := laid(b)
	if inbox.Same(a, b) != want || inbox.Same(b, a) != want || equal(a, b) != want {
		t.Fatalf("Same(%s; %s) is not %t", short(a), short(b), want)
	}
	if !one() || !other() {
		t.Fatalf("Same changed %s or %s", short(a), short(b))
	}
}

// TestSame is of P18.1: boxes of each kind that are equal, and that differ in one
// place alone.
func TestSame(t *testing.T) {
	for many := range 19 {
		for _, b := range append(kinds(many), messy()...) {
			checkSame(t, b, copied(b), true)
			if !inbox.Same(b, b) {
				t.Fatalf("%s is another than itself", short(b))
			}
			for _, by := range []int{-1, 1, 2, 256, 1 << 32, -1 << 32, math.MinInt} {
				checkSame(t, b, with(b, func(b *api.Box) { b.Service += by }), false)
				checkSame(t, b, with(b, func(b *api.Box) { b.Low += by }), false)
				for at := range min(len(b.Above), 20) {
					checkSame(t, b, with(b, func(b *api.Box) { b.Above[at] += by }), false)
				}
			}
			for _, n := range []int{0, b.Low, b.Low + 1, most, math.MaxInt} {
				checkSame(t, b, with(b, func(b *api.Box) { b.Above = append(b.Above, n) }), false)
				checkSame(t, b, with(b, func(b *api.Box) { b.Above = append([]int{n}, b.Above...) }), false)
			}
			for at := range b.Above {
				checkSame(t, b, with(b, func(b *api.Box) { b.Above = b.Above[:at] }), false)
			}
			for at := range min(len(b.Above), 20) {
				checkSame(t, b, with(b, func(b *api.Box) { b.Above = b.Above[at+1:] }), false)
			}
		}
	}
}

// TestSameOfNone is of P18.1: an Above that has none and one that is nil are the
// same, whatever lies behind.
func TestSameOfNone(t *testing.T) {
	nones := [][]int{nil, {}, make([]int, 0, 9), from(4, 9, 2)[:0]}
	for _, x := range nones {
		for _, y := range nones {
			checkSame(t, api.Box{Service: 1, Low: 3, Above: x}, api.Box{Service: 1, Low: 3, Above: y}, true)
			if !inbox.Same(api.Box{Low: 3, Above: x}, api.Box{Low: 3, Above: y}) || inbox.Same(api.Box{Low: 3, Above: x}, api.Box{Low: 4, Above: y}) {
				t.Errorf("none are the same otherwise")
			}
		}
		checkSame(t, api.Box{Above: x}, box(0, 0, 0), false)
	}
	// One memory, but other lengths.
	l := from(4, 9, 2)
	for i := range 10 {
		for j := range 10 {
			if got := inbox.Same(box(1, 1, l[:i]...), box(1, 1, l[:j]...)); got != (i == j) {
				t.Errorf("of %d and of %d numbers are the same: %t", i, j, got)
			}
		}
	}
	// The same numbers in another order, or as often in another place.
	checkSame(t, box(1, 1, 3, 5), box(1, 1, 5, 3), false)
	checkSame(t, box(1, 1, 3, 3, 5), box(1, 1, 3, 5, 5), false)
	checkSame(t, box(1, 2), box(2, 1), false)
	checkSame(t, box(1, 2, 9), box(1, 9, 2), false)
	checkSame(t, api.Box{}, api.Box{}, true)
}
