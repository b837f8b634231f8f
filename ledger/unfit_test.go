package ledger_test

import (
	"math"
	"slices"
	"strings"

	"drayman/api"
	"drayman/ledger"
)

// badCounts are numbers that no count of a Sku may have.
func badCounts() []int {
	return []int{-1, -most, -1 << 62, math.MinInt, most + 1, 1 << 62, math.MaxInt}
}

// badSkus are Skus that are not fit, each for one reason, made of one that is:
// no name; a count that is no amount, with the In that was and with the sum; an
// In that is not the sum. What is held is as it was, but where it is the reason.
func badSkus(x api.Sku) []api.Sku {
	var l []api.Sku
	turn := func(how func(x *api.Sku)) {
		y := x
		how(&y)
		l = append(l, y)
	}
	for _, s := range badNames() {
		turn(func(y *api.Sku) { y.Name = s })
	}
	for _, n := range badCounts() {
		turn(func(y *api.Sku) { y.Hand = n })
		turn(func(y *api.Sku) { y.Held = n })
		turn(func(y *api.Sku) { y.Kept = n })
		turn(func(y *api.Sku) { y.Sent = n })
		turn(func(y *api.Sku) { y.In = n })
		turn(func(y *api.Sku) { y.Hand, y.In = n, n+x.Held+x.Kept+x.Sent })
		turn(func(y *api.Sku) { y.Kept, y.In = n, n+x.Hand+x.Held+x.Sent })
		turn(func(y *api.Sku) { y.Sent, y.In = n, n+x.Hand+x.Held+x.Kept })
		turn(func(y *api.Sku) { y.Hand, y.Kept, y.In = n, -n, x.Held+x.Sent })
	}
	for _, by := range []int{1, -1, 1 << 32, -1 << 32} {
		turn(func(y *api.Sku) { y.In += by })
		turn(func(y *api.Sku) { y.Hand += by })
		turn(func(y *api.Sku) { y.Kept += by })
		turn(func(y *api.Sku) { y.Sent += by })
	}
	turn(func(y *api.Sku) { y.Hand, y.In = most-x.Held-x.Kept-x.Sent+1, most+1 })
	turn(func(y *api.Sku) { y.Sent, y.In = most, most+x.Hand+x.Held+x.Kept })
	return slices.DeleteFunc(l, wantSku)
}

// badLines are lines that no hold may have, for each reason.
func badLines() [][]api.Line {
	return [][]api.Line{nil, {}, of("1 0"), of("1 -1"), of("1 1048577"), of("1 4294967297"), of("1 9223372036854775807"), of("1 -9223372036854775808"), of("1 1, 1 1"), of("9- 1, 1 1"), of("1 1, 9- 0"), of("1 0, 9- 1"),
		of("1 1, 9- 1, d 1, b 1"), of("1 1, 9- 1, b 1, d 1, f-x 1"), {{Sku: "", N: 1}}, {{}}, {{Sku: "1", N: 1}, {}}, of("1 1, Tea 1"), of("-1 1"), of("1 1, abcdefghijklm 1"), of("1 1, \xff 1"), slices.Repeat(of("1 1"), 4), make([]api.Line, 100)}
}

// badHolds are holds that no fit book has, each for one reason. Their Saga,
// where this is not the reason, is the one asked for.
func badHolds(saga int) []api.Hold {
	l := []api.Hold{{}, {Saga: saga}}
	for _, n := range append(badCounts(), 0) {
		l = append(l, hold(n, 0, "1 1"))
	}
	for _, n := range badCounts() {
		l = append(l, hold(saga, n, "1 1"))
	}
	for _, x := range badLines() {
		l = append(l, api.Hold{Saga: saga, Lines: x}, api.Hold{Saga: saga, Lines: x, Until: 5})
	}
	return l
}

// unfit are books that are not fit, for each reason.
func unfit() []ledger.Book {
	l := []ledger.Book{{Skus: make([]api.Sku, 1)}, {Skus: make([]api.Sku, 13)}, {Holds: make([]api.Hold, 1)}, {Holds: some(1, 1).Holds}, {Holds: some(12, 17).Holds}, some(12, 17), some(1, 17), some(12, 30)}
	for many := range 17 {
		l = append(l, thirteen(many)...)
	}
	for _, size := range [][2]int{{1, 0}, {1, 1}, {2, 2}, {5, 3}, {12, 16}} {
		b := some(size[0], size[1])
		l = append(l, unfitSkus(b)...)
		l = append(l, disordered(b)...)
		l = append(l, unheld(b)...)
		l = append(l, unfitHolds(b)...)
	}
	return l
}

// thirteen are books of thirteen Skus, and of more, with as many holds as asked
// for.
func thirteen(many int) []ledger.Book {
	var l []ledger.Book
	for at, s := range between() {
		b := some(12, many)
		b.Skus = slices.Insert(b.Skus, at, api.Sku{Name: s, Hand: 5, In: 5})
		l = append(l, b)
	}
	b := some(12, many)
	for _, s := range []string{"ç", "è", "é"} {
		b.Skus = append(b.Skus, api.Sku{Name: s})
		l = append(l, copyOf(b))
	}
	return l
}

// unfitSkus are of a fit book, with a Sku that is not fit at each place.
func unfitSkus(b ledger.Book) []ledger.Book {
	var l []ledger.Book
	for at, x := range b.Skus {
		for _, y := range badSkus(x) {
			turned := copyOf(b)
			turned.Skus[at] = y
			l = append(l, turned)
		}
		nameless := copyOf(b)
		nameless.Skus = slices.Insert(nameless.Skus, at, api.Sku{})
		l = append(l, nameless)
	}
	return l
}

// disordered are of a fit book, with Names that are equal or descend; all else
// is as it must be.
func disordered(b ledger.Book) []ledger.Book {
	var l []ledger.Book
	for at := range b.Skus {
		if len(b.Skus) < maxSkus {
			twice := copyOf(b)
			twice.Skus = slices.Insert(twice.Skus, at, twice.Skus[at])
			none := copyOf(b)
			none.Skus = slices.Insert(none.Skus, at+1, api.Sku{Name: none.Skus[at].Name})
			last := copyOf(b)
			last.Skus = append(last.Skus, last.Skus[at])
			l = append(l, twice, none, last)
		}
		for other := range at {
			swapped := copyOf(b)
			swapped.Skus[at], swapped.Skus[other] = swapped.Skus[other], swapped.Skus[at]
			same := copyOf(b)
			same.Skus[at] = same.Skus[other]
			l = append(l, swapped, same, settled(same))
		}
	}
	back := copyOf(b)
	slices.Reverse(back.Skus)
	if len(b.Skus) > 1 {
		l = append(l, back)
	}
	return l
}

// unheld are of a fit book, with another Held at each Sku than the total of its
// holds, and with each Sku of a hold gone, or of another name.
func unheld(b ledger.Book) []ledger.Book {
	var l []ledger.Book
	turn := func(at int, how func(x *api.Sku)) {
		turned := copyOf(b)
		how(&turned.Skus[at])
		l = append(l, turned)
	}
	for at, x := range b.Skus {
		turn(at, func(x *api.Sku) { x.Held, x.In = x.Held+1, x.In+1 })
		turn(at, func(x *api.Sku) { x.Held, x.Hand = x.Held+1, x.Hand-1 })
		turn(at, func(x *api.Sku) { x.Held, x.Kept = x.Held+1, x.Kept-1 })
		turn(at, func(x *api.Sku) { x.Held, x.In = x.Held+1<<32, x.In+1<<32 })
		if x.Held == 0 {
			continue
		}
		turn(at, func(x *api.Sku) { x.Held, x.In = x.Held-1, x.In-1 })
		turn(at, func(x *api.Sku) { x.Held, x.Hand = x.Held-1, x.Hand+1 })
		turn(at, func(x *api.Sku) { x.Held, x.In = 0, x.In-x.Held })
		turn(at, func(x *api.Sku) { x.Name = strings.TrimSuffix(x.Name, "-") + "--" })
		gone := copyOf(b)
		gone.Skus = slices.Delete(gone.Skus, at, at+1)
		l = append(l, gone)
	}
	if len(b.Holds) > 0 {
		l = append(l, ledger.Book{Holds: b.Holds}, ledger.Book{Skus: b.Skus}, ledger.Book{Skus: b.Skus, Holds: b.Holds[1:]})
	}
	return l
}

// unfitHolds are of a fit book, with a hold that may not be at each place, with
// Sagas that do not ascend, and with a line whose Sku is not there; what is held
// is what the holds say.
func unfitHolds(b ledger.Book) []ledger.Book {
	var l []ledger.Book
	for at, h := range b.Holds {
		for _, bad := range badHolds(h.Saga) {
			turned := copyOf(b)
			turned.Holds[at] = bad
			l = append(l, settled(turned))
		}
		for i := range h.Lines {
			turned := copyOf(b)
			turned.Holds[at].Lines[i].Sku = strings.TrimSuffix(h.Lines[i].Sku, "-") + "--"
			l = append(l, settled(turned), turned)
		}
		if at > 0 {
			swapped, twice := copyOf(b), copyOf(b)
			swapped.Holds[at], swapped.Holds[at-1] = swapped.Holds[at-1], swapped.Holds[at]
			twice.Holds[at].Saga = twice.Holds[at-1].Saga
			l = append(l, swapped, twice)
		}
	}
	return l
}
