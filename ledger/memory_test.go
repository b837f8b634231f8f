package ledger_test

import (
	"slices"
	"testing"

	"drayman/api"
	"drayman/ledger"
)

// around is how many elements laid lays on each side.
const around = 3

// laid lays the lists of a book into longer arrays, and the lines of each hold
// too, so that something lies ahead of them and behind them. It tells whether
// all of that is still as it was.
func laid(b ledger.Book) (ledger.Book, func() bool) {
	aroundSkus := slices.Repeat([]api.Sku{{Name: "around", Hand: -1, Held: -2, Kept: -3, Sent: -4, In: -5}}, around)
	aroundHolds := slices.Repeat([]api.Hold{hold(-5, -6, "around -7")}, around)
	all := ledger.Book{Skus: slices.Concat(aroundSkus, b.Skus, aroundSkus), Holds: slices.Concat(aroundHolds, b.Holds, aroundHolds)}
	var whole []func() bool
	for i, h := range all.Holds {
		l, asItWas := laidLines(h.Lines)
		all.Holds[i].Lines = l
		whole = append(whole, asItWas)
	}
	before := copyOf(all)
	asItWas := func() bool {
		is := equal(all, before)
		for _, lines := range whole {
			is = is && lines()
		}
		return is
	}
	return ledger.Book{Skus: all.Skus[around : around+len(b.Skus)], Holds: all.Holds[around : around+len(b.Holds)]}, asItWas
}

// laidLines lays lines into a longer array, as laid does.
func laidLines(l []api.Line) ([]api.Line, func() bool) {
	aroundLines := slices.Repeat(of("around -8"), around)
	all := slices.Concat(aroundLines, l, aroundLines)
	before := slices.Clone(all)
	return all[around : around+len(l)], func() bool { return slices.Equal(all, before) }
}

// spoil overwrites the lists of a book, the lines of its holds, and what lies
// behind the length of each.
func spoil(b ledger.Book) {
	skus, held := b.Skus[:cap(b.Skus)], b.Holds[:cap(b.Holds)]
	for i := range skus {
		skus[i] = api.Sku{Name: "spoilt", Hand: -9}
	}
	for i := range held {
		spoilLines(held[i].Lines)
		held[i] = api.Hold{Saga: -9, Until: -9}
	}
}

// spoilLines overwrites lines, and what lies behind their length.
func spoilLines(l []api.Line) {
	l = l[:cap(l)]
	for i := range l {
		l[i] = api.Line{Sku: "spoilt", N: -9}
	}
}

// run calls with arguments that are laid. It tells what was answered, what was
// handed in, and whether all of that is still as it was.
func run(c call, b ledger.Book, g given) (got, handed ledger.Book, lines []api.Line, asItWas func() bool) {
	handed, bookAsItWas := laid(b)
	lines, linesAsTheyWere := laidLines(g.l)
	g.l = lines
	got, _ = c.do(handed, g)
	return got, handed, lines, func() bool { return bookAsItWas() && linesAsTheyWere() }
}

// checkMemory reports what a call has changed of what it was handed, or shares
// with it, and lists of its answer that share memory.
func checkMemory(t *testing.T, c call, b ledger.Book, g given) {
	t.Helper()
	got, handed, lines, asItWas := run(c, b, g)
	if !asItWas() {
		t.Fatalf("%s changed what was handed in", c.text(b, g))
	}
	want := copyOf(got)
	spoil(handed)
	spoilLines(lines)
	if !equal(got, want) {
		t.Fatalf("%s was answered with %s, which is %s when what was handed in is turned", c.name, short(want), short(got))
	}
	checkApart(t, c, got)
	got, _, _, asItWas = run(c, b, g)
	spoil(got)
	if !asItWas() {
		t.Fatalf("%s shares memory with what was handed in", c.text(b, g))
	}
}

// checkApart reports holds of an answer whose lines share memory.
func checkApart(t *testing.T, c call, b ledger.Book) {
	t.Helper()
	for i := range b.Holds {
		want := copyOf(b)
		spoilLines(b.Holds[i].Lines)
		copy(want.Holds[i].Lines, b.Holds[i].Lines)
		if !equal(b, want) {
			t.Fatalf("%s: the lines of hold %d share memory with others: %s", c.name, i, short(b))
		}
	}
}

// TestMemory is of P14.5 and rule 0.5: each call, of books of each size, of each
// Sku and hold, also such as are refused.
func TestMemory(t *testing.T) {
	for _, size := range sizes() {
		b := some(size[0], size[1])
		for _, c := range calls() {
			for _, g := range handings(b) {
				check(t, c, b, g)
				checkMemory(t, c, b, g)
			}
		}
	}
}

// handings are what calls may be handed beside a book: of each Sku and hold of
// it, and of others.
func handings(b ledger.Book) []given {
	l := []given{{}, {sku: "tea", n: 5, saga: 5, l: of("tea 1"), until: 5}, {sku: "0", n: 1, saga: most, l: of("1 51")}, {sku: "Tea", n: 3, saga: -1, l: of("Tea 3")}}
	for i, x := range b.Skus {
		l = append(l, given{sku: x.Name, n: 7, saga: 10*i + 5, l: []api.Line{{Sku: x.Name, N: 3}}}, given{sku: x.Name, n: -7, saga: 10*i + 15, l: []api.Line{{Sku: x.Name, N: 200}}, until: 3})
	}
	for _, h := range b.Holds {
		l = append(l, putOf(h), given{sku: between()[0], n: 3, saga: h.Saga + 1, l: h.Lines, until: h.Until})
	}
	return l
}

// TestSharedLines is of rule 0.5: the holds that are handed in have their lines
// from one list; those of the answer have lists of their own, and that list
// stays.
func TestSharedLines(t *testing.T) {
	for many := range 16 {
		lines := append(make([]api.Line, 0, 9), of("salt 1, tea 5")...)
		b := book("salt 90 90 0, tea 90 90 0")
		for i := range many {
			b.Holds = append(b.Holds, api.Hold{Saga: 10*i + 10, Lines: lines[:1+i%2]})
		}
		shared := b.Holds
		b = settled(b)
		b.Holds = shared
		for _, c := range calls() {
			g := given{sku: "tea", n: 3, saga: 10, l: lines}
			if c.name == "Hold" || c.name == "Unkeep" {
				g.saga = 5
			}
			got, _ := check(t, c, b, g)
			checkApart(t, c, got)
			if !slices.Equal(lines, of("salt 1, tea 5")) || lines[:9][2] != (api.Line{}) {
				t.Fatalf("%s: the lines are %s now", c.name, shortLines(lines[:9]))
			}
		}
	}
}

// TestBranches is of P14.5: books that come of one do not touch each other.
func TestBranches(t *testing.T) {
	b := some(5, 4)
	before := copyOf(b)
	for _, c := range calls() {
		for _, d := range calls() {
			for _, saga := range []int{5, 20, 40} {
				g := given{sku: "d", n: 2, saga: saga, l: of("9- 1, b 2")}
				x, _ := c.do(b, g)
				wantX := copyOf(x)
				y, _ := d.do(b, g)
				z, _ := d.do(x, g)
				wantY, wantZ := copyOf(y), copyOf(z)
				if !equal(x, wantX) || !equal(b, before) {
					t.Fatalf("%s, %s: %s, %s", c.name, d.name, short(b), short(x))
				}
				spoil(x)
				if !equal(y, wantY) || !equal(z, wantZ) || !equal(b, before) {
					t.Fatalf("%s, %s: books of one book share memory: %s, %s, %s", c.name, d.name, short(b), short(y), short(z))
				}
			}
		}
	}
}
