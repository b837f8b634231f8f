package ledger_test

import (
	"math"
	"regexp"
	"slices"
	"strconv"
	"strings"
	"testing"

	"drayman/api"
	"drayman/ledger"
)

const (
	most     = 1 << 40
	maxQty   = 1 << 20
	maxSkus  = 12
	maxSagas = 16
)

// nameForm is the form of a name, as chapter 2 defines it.
var nameForm = regexp.MustCompile(`^[a-z0-9\x{df}-\x{f6}\x{f8}-\x{ff}][-a-z0-9\x{df}-\x{f6}\x{f8}-\x{ff}]{0,11}$`)

// names are twelve names in ascending order.
func names() []string {
	return []string{"1", "9-", "b", "d", "f-x", "h", "salt", "tea", "teas", "z", "ß", "ä"}
}

// between are names of which each stands ahead of the one of names that has its
// place, and behind the one before that; the last one is behind all.
func between() []string {
	return []string{"0", "8", "a", "c", "e", "g", "i", "salty", "tea-", "u", "zz", "à", "ÿ"}
}

// badNames are none: empty, too long, of other case, and such as have other
// runes, or bytes that are no rune.
func badNames() []string {
	return []string{"", "-", "-a", " ", "tea ", " tea", "a b", "tea:", "a,b", "a.b", "\x00", "tea\x00", "tea\n",
		"A", "Tea", "tEA", "teA", "TEA", "Z", "Ä", "ä-Ä", "÷", "×", "Ā", "€", "\ufffd", "\xff", "tea\xff", "\xc3", "\xed\xa0\x80",
		"abcdefghijklm", strings.Repeat("ä", 13), strings.Repeat("a", 1<<16)}
}

// number is the number that a text tells.
func number(s string) int {
	n, err := strconv.Atoi(s)
	if err != nil {
		panic(err)
	}
	return n
}

// of makes lines of Skus and numbers: "salt 1, tea 5".
func of(s string) []api.Line {
	var l []api.Line
	for _, part := range strings.Split(s, ", ") {
		sku, digits, _ := strings.Cut(part, " ")
		l = append(l, api.Line{Sku: sku, N: number(digits)})
	}
	return l
}

// hold makes a hold of a saga, with lines as of makes them.
func hold(saga int, until int, s string) api.Hold {
	return api.Hold{Saga: saga, Lines: of(s), Until: until}
}

// book makes a book of items with Hand, Kept and Sent: "tea 5 0 0, teas 1 2 3".
// Of each is held what the holds say.
func book(s string, l ...api.Hold) ledger.Book {
	b := ledger.Book{Holds: l}
	for _, part := range strings.Split(s, ", ") {
		w := strings.Fields(part)
		b.Skus = append(b.Skus, api.Sku{Name: w[0], Hand: number(w[1]), Kept: number(w[2]), Sent: number(w[3])})
	}
	return settled(b)
}

// settled is a book in which of each Sku is held what the holds say, and In is
// the sum.
func settled(b ledger.Book) ledger.Book {
	b = copyOf(b)
	for i := range b.Skus {
		x := &b.Skus[i]
		x.Held = 0
		for _, h := range b.Holds {
			for _, line := range h.Lines {
				if line.Sku == x.Name {
					x.Held += line.N
				}
			}
		}
		x.In = x.Hand + x.Held + x.Kept + x.Sent
	}
	return b
}

// some makes a fit book of as many Skus and holds as asked for, and of more
// holds than may be too. The Sagas are 10, 20 and so on.
func some(skus, many int) ledger.Book {
	var b ledger.Book
	for i, s := range names()[:skus] {
		b.Skus = append(b.Skus, api.Sku{Name: s, Hand: 100 + i, Kept: 50 + i, Sent: i})
	}
	for i := range many {
		h := api.Hold{Saga: 10*i + 10, Until: i * 7 % 5}
		size := 1 + i%min(4, skus)
		first := i * 5 % (skus - size + 1)
		for j := range size {
			h.Lines = append(h.Lines, api.Line{Sku: names()[first+j], N: 1 + i + j})
		}
		b.Holds = append(b.Holds, h)
	}
	return settled(b)
}

// sizes are numbers of Skus and of holds that a fit book may have.
func sizes() [][2]int {
	return [][2]int{{0, 0}, {1, 0}, {1, 1}, {1, 16}, {2, 0}, {2, 2}, {3, 3}, {5, 3}, {8, 9}, {11, 15}, {12, 0}, {12, 1}, {12, 16}}
}

// copyOf is a book with memory of its own, made without the package.
func copyOf(b ledger.Book) ledger.Book {
	skus, held := make([]api.Sku, len(b.Skus)), make([]api.Hold, len(b.Holds))
	copy(skus, b.Skus)
	copy(held, b.Holds)
	for i := range held {
		held[i].Lines = make([]api.Line, len(b.Holds[i].Lines))
		copy(held[i].Lines, b.Holds[i].Lines)
	}
	return ledger.Book{Skus: skus, Holds: held}
}

// equal reports whether two books are equal, nil and empty lists too.
func equal(a, b ledger.Book) bool {
	return slices.Equal(a.Skus, b.Skus) && slices.EqualFunc(a.Holds, b.Holds, func(x, y api.Hold) bool {
		return x.Saga == y.Saga && x.Until == y.Until && slices.Equal(x.Lines, y.Lines)
	})
}

// amount is the reference of an amount.
func amount(n int) bool { return n >= 0 && n <= most }

// wantLines is the reference of lines that a hold may have.
func wantLines(l []api.Line) bool {
	if len(l) < 1 || len(l) > 4 {
		return false
	}
	is := true
	for i, x := range l {
		is = is && nameForm.MatchString(x.Sku) && x.N >= 1 && x.N <= maxQty
		for j := range i {
			is = is && strings.Compare(l[j].Sku, x.Sku) < 0
		}
	}
	return is
}

// wantHold is the reference of what a hold of a fit book must be.
func wantHold(h api.Hold) bool {
	return h.Saga >= 1 && h.Saga <= most && amount(h.Until) && wantLines(h.Lines)
}

// wantSku is the reference of what a Sku of a fit book must be.
func wantSku(x api.Sku) bool {
	is := nameForm.MatchString(x.Name) && amount(x.Hand) && amount(x.Held) && amount(x.Kept) && amount(x.Sent) && amount(x.In)
	return is && x.Hand+x.Held+x.Kept+x.Sent == x.In
}

// wantFit is the reference of Fit: each condition for all of the book.
func wantFit(b ledger.Book) bool {
	if len(b.Skus) > maxSkus || len(b.Holds) > maxSagas {
		return false
	}
	is := true
	totals := map[string]int{}
	for i, h := range b.Holds {
		is = is && wantHold(h)
		for j := range i {
			is = is && b.Holds[j].Saga < h.Saga
		}
		for _, x := range h.Lines {
			totals[x.Sku] += x.N
		}
	}
	for i, x := range b.Skus {
		is = is && wantSku(x) && x.Held == totals[x.Name]
		for j := range i {
			is = is && strings.Compare(b.Skus[j].Name, x.Name) < 0
		}
		delete(totals, x.Name)
	}
	return is && len(totals) == 0
}

// short writes a book for a message, but not more of it than can be read.
func short(b ledger.Book) string {
	var s strings.Builder
	s.WriteString(strconv.Itoa(len(b.Skus)) + " Skus")
	for _, x := range b.Skus[:min(len(b.Skus), 14)] {
		s.WriteString(", " + strconv.Quote(x.Name[:min(len(x.Name), 30)]))
		for _, n := range []int{x.Hand, x.Held, x.Kept, x.Sent, x.In} {
			s.WriteString(" " + strconv.Itoa(n))
		}
	}
	s.WriteString("; " + strconv.Itoa(len(b.Holds)) + " holds")
	for _, h := range b.Holds[:min(len(b.Holds), 18)] {
		s.WriteString(", " + strconv.Itoa(h.Saga) + " until " + strconv.Itoa(h.Until) + " of " + shortLines(h.Lines))
	}
	return s.String()
}

// shortLines writes lines for a message.
func shortLines(l []api.Line) string {
	s := strconv.Itoa(len(l)) + " ["
	for _, x := range l[:min(len(l), 6)] {
		s += " " + strconv.Quote(x.Sku[:min(len(x.Sku), 30)]) + " " + strconv.Itoa(x.N)
	}
	return s + " ]"
}

// checkFit holds Fit against what is wanted, and against its reference.
func checkFit(t *testing.T, b ledger.Book, want bool) {
	t.Helper()
	before := copyOf(b)
	if got := ledger.Fit(b); got != want || got != wantFit(b) {
		t.Errorf("Fit of %s is %t", short(b), got)
	}
	if !equal(b, before) {
		t.Errorf("Fit changed %s to %s", short(before), short(b))
	}
}

// TestFit is of P14.1: books that are fit, of each number of Skus and of holds.
func TestFit(t *testing.T) {
	for _, b := range []ledger.Book{{}, {Skus: []api.Sku{}}, {Holds: []api.Hold{}}, {Skus: some(1, 1).Skus[:0], Holds: some(1, 1).Holds[:0]}} {
		checkFit(t, b, true)
	}
	for skus := 1; skus <= maxSkus; skus++ {
		for many := range maxSagas + 1 {
			checkFit(t, some(skus, many), true)
		}
		checkFit(t, some(skus, 17), false)
	}
	for _, b := range []ledger.Book{
		book("tea 0 0 0"), book("tea 5 0 0"), book("tea 0 5 0"), book("tea 0 0 5"), book("tea 1099511627776 0 0"), book("tea 0 1099511627776 0"), book("tea 0 0 1099511627776"),
		book("tea 0 0 0", hold(1, 0, "tea 1")), book("tea 0 0 0", hold(most, most, "tea 1048576")), book("tea 1099510579200 0 0", hold(1, 0, "tea 1048576")), book("tea 1099510579200 0 0, teas 1099511627775 0 0", hold(1, 0, "tea 1048576, teas 1")),
		book("a 0 0 0, b 0 0 0, c 0 0 0, d 0 0 0", hold(1, 5, "a 1048576, b 1048576, c 1048576, d 1048576")), book("a 9 9 9, aa 0 0 0, b 9 9 9", hold(3, 5, "aa 1"), hold(4, 5, "aa 2")), book("abcdefghijkl 1 2 3, " + strings.Repeat("ä", 12) + " 0 0 0"),
	} {
		checkFit(t, b, true)
	}
	full := some(12, 16)
	for i := range full.Holds {
		full.Holds[i].Lines = of("d 1048576, salt 1048576, tea 1048576, ä 1048576")
	}
	checkFit(t, settled(full), true)
	checkFit(t, full, false)
}

// TestFitOfEachName is of P14.1: a Sku that is no name, and names next to each
// other.
func TestFitOfEachName(t *testing.T) {
	for _, s := range badNames() {
		checkFit(t, ledger.Book{Skus: []api.Sku{{Name: s}}}, false)
		checkFit(t, ledger.Book{Skus: []api.Sku{{Name: "1"}, {Name: s}}}, false)
	}
	all := append(append(names(), between()...), "", "Tea", "-")
	for _, a := range all {
		for _, b := range all {
			is := a < b && a != "" && a != "Tea" && a != "-" && b != "Tea"
			checkFit(t, ledger.Book{Skus: []api.Sku{{Name: a}, {Name: b}}}, is)
		}
	}
}

// TestFitOfUnfit is of P14.1: books that are not fit, for each reason.
func TestFitOfUnfit(t *testing.T) {
	for _, b := range unfit() {
		checkFit(t, b, false)
	}
	for _, b := range []ledger.Book{
		{Skus: make([]api.Sku, 1<<16)}, {Skus: slices.Repeat(some(1, 0).Skus, 1<<16)}, {Holds: make([]api.Hold, 1<<16)}, {Skus: some(1, 1).Skus, Holds: slices.Repeat(some(1, 1).Holds, 1<<16)},
		{Skus: some(1, 0).Skus, Holds: []api.Hold{{Saga: 1, Lines: slices.Repeat(of("1 1"), 1<<16)}}}, {Skus: []api.Sku{{Name: strings.Repeat("a", 1<<20)}}},
	} {
		checkFit(t, b, false)
	}
}

// TestFitOfHeld is of P14.1: Held of a Sku against the total of its holds, with
// small and great differences, also such as cancel out among the Skus.
func TestFitOfHeld(t *testing.T) {
	for _, size := range [][2]int{{1, 0}, {1, 1}, {3, 4}, {12, 16}} {
		b := some(size[0], size[1])
		for at := range b.Skus {
			for _, by := range []int{1, -1, 2, -b.Skus[at].Held, 16, maxQty, most, 1 << 32, 1 << 62, math.MinInt, -1 << 32} {
				x := copyOf(b)
				x.Skus[at].Held += by
				x.Skus[at].In += by
				checkFit(t, x, by == 0)
				x.Skus[at].In -= by
				checkFit(t, x, by == 0)
				x.Skus[at].Hand -= by
				checkFit(t, x, by == 0)
			}
			for to := range b.Skus {
				x := copyOf(b)
				x.Skus[at].Held, x.Skus[at].In = x.Skus[at].Held+1, x.Skus[at].In+1
				x.Skus[to].Held, x.Skus[to].In = x.Skus[to].Held-1, x.Skus[to].In-1
				checkFit(t, x, at == to)
			}
		}
	}
}

// TestFitOfEach is of P14.1: all books of up to two Skus and two holds with
// small numbers, those of other names among them.
func TestFitOfEach(t *testing.T) {
	var skus [][]api.Sku
	var one []api.Sku
	for _, s := range []string{"a", "b", "B"} {
		for held := -1; held <= 3; held++ {
			for by := range 2 {
				one = append(one, api.Sku{Name: s, Hand: 1, Held: held, In: 1 + held + by})
			}
		}
	}
	skus = append(skus, nil)
	for _, x := range one {
		skus = append(skus, []api.Sku{x})
		for _, y := range one {
			skus = append(skus, []api.Sku{x, y})
		}
	}
	var held [][]api.Hold
	held = append(held, nil)
	for _, x := range []string{"a 1", "b 1", "a 1, b 2", "c 1", "a 0", "b 1, a 1"} {
		held = append(held, []api.Hold{hold(1, 0, x)}, []api.Hold{hold(0, 0, x)})
		for _, y := range []string{"a 2", "b 2", "a 1, b 1", "a 1, c 1"} {
			held = append(held, []api.Hold{hold(1, 0, x), hold(2, 0, y)}, []api.Hold{hold(2, 0, x), hold(2, 0, y)})
		}
	}
	fit := 0
	for _, x := range skus {
		for _, y := range held {
			b := ledger.Book{Skus: x, Holds: y}
			is := wantFit(b)
			checkFit(t, b, is)
			if is {
				fit++
			}
		}
	}
	// Counted by hand: without a hold, with one, and with two.
	if fit != 4+5+10 {
		t.Errorf("%d of them are fit", fit)
	}
}
