package ledger_test

import (
	"math"
	"slices"
	"strings"
	"testing"

	"drayman/api"
	"drayman/ledger"
)

// checkFind holds Find against its reference.
func checkFind(t *testing.T, b ledger.Book, s string, is bool) {
	t.Helper()
	var want api.Sku
	if is {
		want = *has(b, s)
	}
	before := copyOf(b)
	got, ok := ledger.Find(b, s)
	if got != want || ok != is || ok != (has(b, s) != nil) {
		t.Fatalf("Find(%s, %.60q) is %v, %t", short(b), s, got, ok)
	}
	if !equal(b, before) {
		t.Fatalf("Find changed %s to %s", short(before), short(b))
	}
}

// TestFind is of P14.1: each Sku of books of each size; and what is no name,
// ahead of all, behind all and between two.
func TestFind(t *testing.T) {
	for skus := range maxSkus + 1 {
		for _, many := range []int{0, 1, 16} {
			if skus == 0 && many > 0 {
				continue
			}
			b := some(skus, many)
			for i, s := range names() {
				checkFind(t, b, s, i < skus)
				checkFind(t, b, s+"-", false)
				checkFind(t, b, strings.ToUpper(s)+"A", false)
			}
			for _, s := range append(between(), badNames()...) {
				checkFind(t, b, s, false)
			}
		}
	}
	if x, is := ledger.Find(some(12, 0), "tea"); !is || x != (api.Sku{Name: "tea", Hand: 107, Kept: 57, Sent: 7, In: 171}) {
		t.Errorf("Find of tea is %v, %t", x, is)
	}
	if x, is := ledger.Find(some(12, 0), "te"); is || x != (api.Sku{}) {
		t.Errorf("Find of te is %v, %t", x, is)
	}
	checkFind(t, ledger.Book{}, "", false)
	checkFind(t, ledger.Book{}, "tea", false)
	checkFind(t, ledger.Book{Holds: some(12, 16).Holds}, "tea", false)
}

// TestFindInUnfit is of P14.1: the first Sku with a Name in books that are not
// fit, in any order, with a Name that is there twice or may not be.
func TestFindInUnfit(t *testing.T) {
	for _, b := range unfit() {
		for _, s := range []string{"1", "ä", "tea", "", "Tea", "\xff", "zz"} {
			checkFind(t, b, s, has(b, s) != nil)
		}
		for _, x := range b.Skus {
			checkFind(t, b, x.Name, true)
		}
	}
	b := ledger.Book{Skus: []api.Sku{{Name: "tea", Hand: 1}, {Name: "b", Hand: 2}, {Name: "tea", Hand: 3, In: 3}, {Name: "a", Hand: 4}, {Name: "b", Hand: 5}, {Name: "", Hand: -6}, {Name: "Tea", Hand: math.MaxInt}, {Name: "", Hand: 8}}}
	for s, n := range map[string]int{"tea": 1, "b": 2, "a": 4, "": -6, "Tea": math.MaxInt} {
		checkFind(t, b, s, true)
		if x, is := ledger.Find(b, s); !is || x != (api.Sku{Name: s, Hand: n}) && s != "tea" || x.Hand != n {
			t.Errorf("Find of %q is %v, %t", s, x, is)
		}
	}
	for _, s := range []string{"c", "0", "te", "teas", "\xff"} {
		checkFind(t, b, s, false)
	}
	if x, is := ledger.Find(ledger.Book{Skus: make([]api.Sku, 1)}, ""); !is || x != (api.Sku{}) {
		t.Errorf("Find of a nameless Sku is %v, %t", x, is)
	}
	long := ledger.Book{Skus: slices.Repeat(some(12, 0).Skus, 1<<12)}
	long.Skus = append(long.Skus, api.Sku{Name: "last", In: 7})
	checkFind(t, long, "last", true)
	checkFind(t, long, "ä", true)
	checkFind(t, long, "lasting", false)
}

// checkSame holds Same against what is wanted, both ways round.
func checkSame(t *testing.T, a, b ledger.Book, want bool) {
	t.Helper()
	beforeA, beforeB := copyOf(a), copyOf(b)
	if ledger.Same(a, b) != want || ledger.Same(b, a) != want {
		t.Errorf("Same(%s, %s) is not %t", short(a), short(b), want)
	}
	if !equal(a, beforeA) || !equal(b, beforeB) {
		t.Errorf("Same changed %s and %s to %s and %s", short(beforeA), short(beforeB), short(a), short(b))
	}
}

// turned are books that are not equal to b: one field of one Sku, of one hold or
// of one line is another, a length is, or the order.
func turned(b ledger.Book) []ledger.Book {
	var all []ledger.Book
	turn := func(how func(x *ledger.Book)) {
		x := copyOf(b)
		how(&x)
		all = append(all, x)
	}
	for i := range b.Skus {
		for _, count := range []func(x *api.Sku) *int{hand, held, kept, func(x *api.Sku) *int { return &x.Sent }, func(x *api.Sku) *int { return &x.In }} {
			for _, by := range []int{1, -1, 1 << 32, 1 << 62, math.MinInt} {
				turn(func(x *ledger.Book) { *count(&x.Skus[i]) += by })
			}
		}
		turn(func(x *ledger.Book) { x.Skus[i].Name += "s" })
		turn(func(x *ledger.Book) { x.Skus[i].Name = "" })
		turn(func(x *ledger.Book) { x.Skus = slices.Delete(x.Skus, i, i+1) })
		turn(func(x *ledger.Book) { x.Skus = slices.Insert(x.Skus, i, x.Skus[i]) })
		turn(func(x *ledger.Book) { x.Skus = slices.Insert(x.Skus, i, api.Sku{}) })
	}
	for i := range b.Holds {
		for _, by := range []int{1, -1, 1 << 32, math.MinInt} {
			turn(func(x *ledger.Book) { x.Holds[i].Saga += by })
			turn(func(x *ledger.Book) { x.Holds[i].Until += by })
			turn(func(x *ledger.Book) { x.Holds[i].Lines[0].N += by })
			turn(func(x *ledger.Book) { x.Holds[i].Lines[len(x.Holds[i].Lines)-1].N += by })
		}
		turn(func(x *ledger.Book) { x.Holds[i].Lines[0].Sku += "s" })
		turn(func(x *ledger.Book) { x.Holds[i].Lines = x.Holds[i].Lines[1:] })
		turn(func(x *ledger.Book) { x.Holds[i].Lines = append(x.Holds[i].Lines, api.Line{}) })
		turn(func(x *ledger.Book) { x.Holds = slices.Delete(x.Holds, i, i+1) })
		turn(func(x *ledger.Book) { x.Holds = slices.Insert(x.Holds, i, copyOf(b).Holds[i]) })
		turn(func(x *ledger.Book) { x.Holds = slices.Insert(x.Holds, i, api.Hold{}) })
	}
	turn(func(x *ledger.Book) { x.Skus = append(x.Skus, api.Sku{}) })
	turn(func(x *ledger.Book) { x.Holds = append(x.Holds, api.Hold{}) })
	return all
}

// TestSame is of P14.1: books that are equal, and such as are turned at one
// place.
func TestSame(t *testing.T) {
	for _, size := range sizes() {
		b := some(size[0], size[1])
		checkSame(t, b, b, true)
		checkSame(t, b, copyOf(b), true)
		for _, x := range turned(b) {
			checkSame(t, b, x, false)
			checkSame(t, x, copyOf(x), true)
		}
		for _, other := range sizes() {
			checkSame(t, b, some(other[0], other[1]), size == other)
		}
		if size[0] > 1 && size[1] > 1 {
			skus, held := copyOf(b), copyOf(b)
			slices.Reverse(skus.Skus)
			slices.Reverse(held.Holds)
			checkSame(t, b, skus, false)
			checkSame(t, b, held, false)
			checkSame(t, b, ledger.Book{Skus: b.Skus}, false)
			checkSame(t, b, ledger.Book{Holds: b.Holds}, false)
		}
	}
}

// TestSameOfNil is of P14.1 and rule 0.7: an empty list and a nil list are the
// same.
func TestSameOfNil(t *testing.T) {
	empty := []ledger.Book{{}, {Skus: []api.Sku{}}, {Holds: []api.Hold{}}, {Skus: make([]api.Sku, 0, 5), Holds: some(2, 2).Holds[:0]}}
	for _, a := range empty {
		for _, b := range empty {
			checkSame(t, a, b, true)
		}
		checkSame(t, a, ledger.Book{Skus: make([]api.Sku, 1)}, false)
		checkSame(t, a, ledger.Book{Holds: make([]api.Hold, 1)}, false)
	}
	for _, x := range [][]api.Line{nil, {}, of("tea 3")[:0]} {
		checkSame(t, ledger.Book{Holds: []api.Hold{{Saga: 1, Lines: x}}}, ledger.Book{Holds: []api.Hold{{Saga: 1}}}, true)
		checkSame(t, ledger.Book{Holds: []api.Hold{{Saga: 1, Lines: x}}}, ledger.Book{Holds: []api.Hold{{Saga: 1, Lines: make([]api.Line, 1)}}}, false)
	}
}

// TestSameOfUnfit is of P14.1: Same asks for no fit books.
func TestSameOfUnfit(t *testing.T) {
	for _, b := range unfit() {
		checkSame(t, b, copyOf(b), true)
		checkSame(t, b, some(4, 5), false)
		checkSame(t, b, ledger.Book{Skus: append(copyOf(b).Skus, api.Sku{Name: "zz"}), Holds: b.Holds}, false)
	}
	long := ledger.Book{Skus: slices.Repeat(some(12, 0).Skus, 1<<10), Holds: slices.Repeat(some(12, 16).Holds, 1<<10)}
	last := copyOf(long)
	checkSame(t, long, last, true)
	last.Holds[len(last.Holds)-1].Lines[0].Sku = "t"
	checkSame(t, long, last, false)
}
