package ledger_test

import (
	"math"
	"slices"
	"testing"

	"drayman/api"
	"drayman/ledger"
)

// badNumbers are numbers by which nothing may be restocked or adjusted.
func badNumbers() []int {
	return []int{0, most + 1, 2 * most, 1 << 62, math.MaxInt, -most - 1, -1 << 62, math.MinInt + 1, math.MinInt}
}

// TestRestockByHand is of P14.1: books written out.
func TestRestockByHand(t *testing.T) {
	for _, c := range []struct {
		b    ledger.Book
		s    string
		n    int
		want ledger.Book
		err  api.Errno
	}{
		{ledger.Book{}, "tea", 5, book("tea 5 0 0"), api.OK},
		{book("tea 5 0 0"), "tea", 3, book("tea 8 0 0"), api.OK},
		{book("tea 5 6 7"), "tea", 3, book("tea 8 6 7"), api.OK},
		{book("tea 5 0 0"), "salt", 3, book("salt 3 0 0, tea 5 0 0"), api.OK},
		{book("tea 5 0 0"), "teas", 3, book("tea 5 0 0, teas 3 0 0"), api.OK},
		{book("a 1 2 3, tea 5 0 0", hold(4, 5, "a 6")), "b", 1099511627776, book("a 1 2 3, b 1099511627776 0 0, tea 5 0 0", hold(4, 5, "a 6")), api.OK},
		{book("a 1 2 3, tea 5 0 0", hold(4, 5, "a 6")), "a", 10, book("a 11 2 3, tea 5 0 0", hold(4, 5, "a 6")), api.OK},
		{book("a 1 2 3, tea 5 0 0", hold(4, 5, "a 6")), "a", 1099511627764, book("a 1099511627765 2 3, tea 5 0 0", hold(4, 5, "a 6")), api.OK},
		{book("a 1 2 3, tea 5 0 0", hold(4, 5, "a 6")), "a", 1099511627765, ledger.Book{}, api.ErrOver},
		{book("tea 5 0 0"), "tea", 0, ledger.Book{}, api.ErrRange},
		{book("tea 5 0 0"), "salt", 0, ledger.Book{}, api.ErrRange},
		{book("tea 5 0 0"), "tea", -5, ledger.Book{}, api.ErrRange},
		{book("tea 5 0 0"), "salt", 1099511627777, ledger.Book{}, api.ErrRange},
		{book("tea 5 0 0"), "tea", 1099511627777, ledger.Book{}, api.ErrRange},
		{book("tea 5 0 0"), "tea", 1099511627772, ledger.Book{}, api.ErrOver},
		{book("tea 5 0 0"), "Tea", 5, ledger.Book{}, api.ErrForm},
		{book("tea 5 0 0"), "", 5, ledger.Book{}, api.ErrForm},
		{ledger.Book{Skus: []api.Sku{{Name: "tea", Hand: 5, In: 4}}}, "tea", 5, ledger.Book{}, api.ErrBad},
		{some(12, 0), "zz", 5, ledger.Book{}, api.ErrFull},
	} {
		checkIs(t, restock(), c.b, sku(c.s, c.n), c.want, c.err)
	}
}

// TestRestock is of P14.1: each Sku that is there, and one that is not at each
// place, of books of each number of Skus.
func TestRestock(t *testing.T) {
	for skus := range maxSkus + 1 {
		for _, many := range []int{0, 1, 5, 16} {
			b := some(skus, min(many, skus*16))
			for i, s := range names()[:skus] {
				got := checkErr(t, restock(), b, sku(s, 1000+i), api.OK)
				if len(got.Skus) != skus || got.Skus[i].Hand != b.Skus[i].Hand+1000+i || got.Skus[i].Name != s {
					t.Errorf("Restock of %s in %s is %s", s, short(b), short(got))
				}
			}
			for i, s := range between()[:skus+1] {
				if skus == maxSkus {
					checkErr(t, restock(), b, sku(s, 7), api.ErrFull)
					continue
				}
				got := checkErr(t, restock(), b, sku(s, 7), api.OK)
				if len(got.Skus) != skus+1 || got.Skus[i] != (api.Sku{Name: s, Hand: 7, In: 7}) {
					t.Errorf("Restock of %s in %s is %s", s, short(b), short(got))
				}
			}
		}
	}
}

// TestRestockToFull is of P14.1: from an empty book on, in several orders, till
// there are twelve Skus; the thirteenth has no room.
func TestRestockToFull(t *testing.T) {
	for _, by := range []int{1, 5, 7, 11} {
		b := ledger.Book{}
		for i := range maxSkus {
			at := i * by % maxSkus
			b = checkErr(t, restock(), b, sku(names()[at], at+1), api.OK)
		}
		for i, x := range b.Skus {
			if x != (api.Sku{Name: names()[i], Hand: i + 1, In: i + 1}) {
				t.Errorf("Sku %d is %v", i, x)
			}
		}
		for _, s := range between() {
			checkErr(t, restock(), b, sku(s, 1), api.ErrFull)
		}
		for _, s := range names() {
			checkErr(t, restock(), b, sku(s, 1), api.OK)
		}
	}
}

// TestRestockOfNoName is of P14.1: what is no name, whatever the number, also
// where it would be a name in lowercase.
func TestRestockOfNoName(t *testing.T) {
	for _, size := range sizes() {
		for _, s := range badNames() {
			for _, n := range []int{1, 0, -1, most, most + 1} {
				checkErr(t, restock(), some(size[0], size[1]), sku(s, n), api.ErrForm)
			}
		}
	}
	for _, s := range []string{"a", "0", "a-", "abcdefghijkl", "ß", "äöüäöüäöüäöü", "9-z"} {
		checkErr(t, restock(), ledger.Book{}, sku(s, 1), api.OK)
	}
}

// TestRestockNumbers is of P14.1: each error of stock.Restock, at the edges, of
// a Sku that is there and of one that is not.
func TestRestockNumbers(t *testing.T) {
	for _, size := range [][2]int{{1, 1}, {3, 3}, {11, 16}, {12, 16}} {
		b := some(size[0], size[1])
		for at, x := range b.Skus {
			for _, n := range append(badNumbers(), -1, -x.Hand) {
				checkErr(t, restock(), b, sku(x.Name, n), api.ErrRange)
				if size[0] < maxSkus {
					checkErr(t, restock(), b, sku(between()[at], n), api.ErrRange)
				}
			}
			checkErr(t, restock(), b, sku(x.Name, most-x.In), api.OK)
			checkErr(t, restock(), b, sku(x.Name, most-x.In+1), api.ErrOver)
			checkErr(t, restock(), b, sku(x.Name, most-x.Hand), api.ErrOver)
			checkErr(t, restock(), b, sku(x.Name, most), api.ErrOver)
			checkErr(t, restock(), b, sku(x.Name, maxQty+1), api.OK)
			if size[0] < maxSkus {
				checkErr(t, restock(), b, sku(between()[at], most), api.OK)
				checkErr(t, restock(), b, sku(between()[at], 1), api.OK)
			}
		}
	}
}

// TestAdjustByHand is of P14.1: books written out.
func TestAdjustByHand(t *testing.T) {
	b := book("a 1 2 3, tea 5 0 0", hold(4, 5, "a 6"))
	for _, c := range []struct {
		s    string
		by   int
		want ledger.Book
		err  api.Errno
	}{
		{"tea", 3, book("a 1 2 3, tea 8 0 0", hold(4, 5, "a 6")), api.OK},
		{"tea", -3, book("a 1 2 3, tea 2 0 0", hold(4, 5, "a 6")), api.OK},
		{"tea", -5, book("a 1 2 3, tea 0 0 0", hold(4, 5, "a 6")), api.OK},
		{"tea", -6, ledger.Book{}, api.ErrStock},
		{"tea", 0, ledger.Book{}, api.ErrRange},
		{"a", -1, book("a 0 2 3, tea 5 0 0", hold(4, 5, "a 6")), api.OK},
		{"a", -2, ledger.Book{}, api.ErrStock},
		{"a", 1099511627764, book("a 1099511627765 2 3, tea 5 0 0", hold(4, 5, "a 6")), api.OK},
		{"a", 1099511627765, ledger.Book{}, api.ErrOver},
		{"a", 1099511627777, ledger.Book{}, api.ErrRange},
		{"a", -1099511627777, ledger.Book{}, api.ErrRange},
		{"a", -1099511627776, ledger.Book{}, api.ErrStock},
		{"b", 1, ledger.Book{}, api.ErrNone},
		{"Tea", 1, ledger.Book{}, api.ErrNone},
		{"", 0, ledger.Book{}, api.ErrNone},
	} {
		checkIs(t, adjust(), b, sku(c.s, c.by), c.want, c.err)
	}
}

// TestAdjust is of P14.1: each Sku of books of each size, up and down, to 0 and
// below it, to Most and beyond; what is held, kept and sent does not help.
func TestAdjust(t *testing.T) {
	for _, size := range sizes() {
		b := some(size[0], size[1])
		for at, x := range b.Skus {
			for _, by := range []int{1, -1, 7, -7, maxQty + 1, -x.Hand + 1, -x.Hand, most - x.In} {
				got := checkErr(t, adjust(), b, sku(x.Name, by), api.OK)
				if got.Skus[at].Hand != x.Hand+by || got.Skus[at].In != x.In+by || got.Skus[at].Name != x.Name {
					t.Errorf("Adjust of %v by %d is %v", x, by, got.Skus[at])
				}
			}
			for _, by := range []int{-x.Hand - 1, -x.In, -x.Hand - x.Held - 1, -most} {
				checkErr(t, adjust(), b, sku(x.Name, by), api.ErrStock)
			}
			for _, by := range badNumbers() {
				checkErr(t, adjust(), b, sku(x.Name, by), api.ErrRange)
			}
			checkErr(t, adjust(), b, sku(x.Name, most-x.In+1), api.ErrOver)
			checkErr(t, adjust(), b, sku(x.Name, most-x.Hand), api.ErrOver)
			checkErr(t, adjust(), b, sku(x.Name, most), api.ErrOver)
		}
	}
	full := book("tea 1099511627776 0 0")
	checkErr(t, adjust(), full, sku("tea", -most), api.OK)
	checkErr(t, adjust(), full, sku("tea", 1), api.ErrOver)
	checkErr(t, adjust(), book("tea 0 0 0"), sku("tea", most), api.OK)
}

// TestAdjustOfNone is of P14.1 and rule 0.2: a Sku that is not there, at each
// place, and what is no name, whatever the number.
func TestAdjustOfNone(t *testing.T) {
	for _, size := range sizes() {
		b := some(size[0], size[1])
		for _, s := range slices.Concat(between(), badNames(), names()[size[0]:]) {
			for _, by := range []int{1, -1, 0, most, -most, most + 1, math.MinInt} {
				checkErr(t, adjust(), b, sku(s, by), api.ErrNone)
			}
		}
	}
}
