package ledger_test

import (
	"math"
	"slices"
	"testing"

	"drayman/api"
	"drayman/ledger"
)

// TestExample is of the chapter's examples.
func TestExample(t *testing.T) {
	b, _ := checkIs(t, restock(), ledger.Book{}, sku("tea", 5), book("tea 5 0 0"), api.OK)
	checkIs(t, holding(), b, put(1, 0, "tea 6"), ledger.Book{}, api.ErrStock)
	b, _ = checkIs(t, holding(), b, put(1, 0, "tea 3"), book("tea 2 0 0", hold(1, 0, "tea 3")), api.OK)
	b, _ = checkIs(t, keep(), b, saga(1), book("tea 2 3 0"), api.OK)
	b, _ = checkIs(t, send(), b, sent("tea 3"), book("tea 2 0 3"), api.OK)
	if x, is := ledger.Find(b, "tea"); !is || x != (api.Sku{Name: "tea", Hand: 2, Sent: 3, In: 5}) {
		t.Errorf("Find is %v, %t", x, is)
	}
}

// TestByHand is of P14.2 and P14.3: books written out.
func TestByHand(t *testing.T) {
	h := hold(4, 5, "a 6, tea 1")
	b := book("a 1 20 3, b 30 40 50, tea 5 7 0", h)
	for _, c := range []struct {
		c    call
		g    given
		want ledger.Book
		err  api.Errno
	}{
		{holding(), put(3, 9, "b 10, tea 5"), book("a 1 20 3, b 20 40 50, tea 0 7 0", hold(3, 9, "b 10, tea 5"), h), api.OK},
		{holding(), put(5, 0, "a 1, b 30, tea 5"), book("a 0 20 3, b 0 40 50, tea 0 7 0", h, hold(5, 0, "a 1, b 30, tea 5")), api.OK},
		{holding(), put(5, 0, "a 1, b 30, tea 6"), ledger.Book{}, api.ErrStock},
		{holding(), put(5, 0, "a 2, b 30, tea 5"), ledger.Book{}, api.ErrStock},
		{holding(), put(4, 0, "b 1"), ledger.Book{}, api.ErrTwice},
		{holding(), put(0, 0, "b 1"), ledger.Book{}, api.ErrArg},
		{holding(), put(3, 0, "b 0"), ledger.Book{}, api.ErrArg},
		{holding(), put(3, 0, "c 1"), ledger.Book{}, api.ErrStock},
		{release(), saga(4), book("a 7 20 3, b 30 40 50, tea 6 7 0"), api.OK},
		{release(), saga(3), ledger.Book{}, api.ErrNone},
		{keep(), saga(4), book("a 1 26 3, b 30 40 50, tea 5 8 0"), api.OK},
		{keep(), saga(5), ledger.Book{}, api.ErrNone},
		{unkeep(), put(5, 7, "a 20, tea 7"), book("a 1 0 3, b 30 40 50, tea 5 0 0", h, hold(5, 7, "a 20, tea 7")), api.OK},
		{unkeep(), put(3, 0, "b 1"), book("a 1 20 3, b 30 39 50, tea 5 7 0", hold(3, 0, "b 1"), h), api.OK},
		{unkeep(), put(5, 7, "a 20, tea 8"), ledger.Book{}, api.ErrStock},
		{unkeep(), put(5, 7, "c 1"), ledger.Book{}, api.ErrStock},
		{unkeep(), put(4, 7, "a 1"), ledger.Book{}, api.ErrTwice},
		{unkeep(), put(5, -1, "a 1"), ledger.Book{}, api.ErrArg},
		{send(), sent("a 20, b 1"), book("a 1 0 23, b 30 39 51, tea 5 7 0", h), api.OK},
		{send(), sent("tea 7"), book("a 1 20 3, b 30 40 50, tea 5 0 7", h), api.OK},
		{send(), sent("tea 8"), ledger.Book{}, api.ErrStock},
		{send(), sent("c 1"), ledger.Book{}, api.ErrStock},
		{send(), sent("b 1, a 1"), ledger.Book{}, api.ErrArg},
		{send(), given{}, ledger.Book{}, api.ErrArg},
	} {
		checkIs(t, c.c, b, c.g, c.want, c.err)
		checkMemory(t, c.c, b, c.g)
	}
}

// taking are the calls that take lines from a count, and where there are so
// many: the count that they take from, of a book of Skus that all have n there
// and more elsewhere.
func taking(n int, skus ...string) []struct {
	call
	b ledger.Book
} {
	var hands, keeps ledger.Book
	for _, s := range skus {
		hands.Skus = append(hands.Skus, api.Sku{Name: s, Hand: n, Kept: 3 * maxQty, Sent: 4 * maxQty})
		keeps.Skus = append(keeps.Skus, api.Sku{Name: s, Hand: 3 * maxQty, Kept: n, Sent: 4 * maxQty})
	}
	lines := hold(7, 0, skus[0]+" 1048576")
	hands.Holds, keeps.Holds = []api.Hold{lines}, []api.Hold{lines}
	return []struct {
		call
		b ledger.Book
	}{{holding(), settled(hands)}, {unkeep(), settled(keeps)}, {send(), settled(keeps)}}
}

// TestJustEnough is of P14.2 and P14.3: just as many as there are, one less and
// one more; of several lines of which each one is too many, or two, or all.
func TestJustEnough(t *testing.T) {
	skus := []string{"b", "d", "salt", "tea", "ß"}
	for _, n := range []int{1, 2, 3, 1000, 1 << 16, maxQty - 1, maxQty} {
		for _, c := range taking(n, skus...) {
			for many := 1; many <= 4; many++ {
				for first := range len(skus) - many + 1 {
					for over := range 1 << many {
						want := api.OK
						g := given{saga: 9, until: 3}
						for i, s := range skus[first : first+many] {
							line := api.Line{Sku: s, N: n - i%2*(n/2)}
							if over>>i&1 == 1 {
								line.N, want = n+1, api.ErrStock
							}
							g.l = append(g.l, line)
						}
						if want == api.ErrStock && n == maxQty {
							want = api.ErrArg
						}
						checkErr(t, c.call, c.b, g, want)
					}
				}
			}
		}
	}
}

// TestOfNoSku is of P14.2 and P14.3: lines of which one has a Sku that is not
// there: ahead of all Skus, behind all and between two.
func TestOfNoSku(t *testing.T) {
	for _, c := range taking(10, "b", "d", "salt", "tea", "ß") {
		for _, l := range []string{"a 1", "c 1", "e 1", "te 1", "teas 1", "z 1", "ä 1", "ÿ 1", "a 1, b 1", "b 1, bb 1", "b 1, c 1, d 1", "b 1, d 1, salt 1, z 1", "b 1, d 1, z 1, ß 1", "a 1, b 1, d 1, salt 1", "a 1, c 1, e 1, g 1"} {
			checkErr(t, c.call, c.b, given{saga: 9, l: of(l)}, api.ErrStock)
			checkErr(t, c.call, ledger.Book{}, given{saga: 9, l: of(l)}, api.ErrStock)
		}
		checkErr(t, c.call, c.b, given{saga: 9, l: of("b 1, d 1, salt 1, tea 1")}, api.OK)
	}
}

// TestOtherCounts is of P14.2 and P14.3: what is elsewhere does not help.
func TestOtherCounts(t *testing.T) {
	h := hold(7, 0, "tea 500")
	checkErr(t, holding(), book("tea 4 500 500", h), put(9, 0, "tea 5"), api.ErrStock)
	checkErr(t, holding(), book("tea 5 0 0", h), put(9, 0, "tea 5"), api.OK)
	checkErr(t, unkeep(), book("tea 500 4 500", h), put(9, 0, "tea 5"), api.ErrStock)
	checkErr(t, unkeep(), book("tea 0 5 0", h), put(9, 0, "tea 5"), api.OK)
	checkErr(t, send(), book("tea 500 4 500", h), sent("tea 5"), api.ErrStock)
	checkErr(t, send(), book("tea 0 5 0", h), sent("tea 5"), api.OK)
	checkErr(t, holding(), book("salt 500 0 0, tea 4 0 0, teas 500 0 0"), put(9, 0, "tea 5"), api.ErrStock)
	checkErr(t, release(), book("tea 0 0 0", h), saga(7), api.OK)
	checkErr(t, keep(), book("tea 0 0 0", h), saga(7), api.OK)
	checkErr(t, release(), book("tea 1099511627276 0 0", h), saga(7), api.OK)
	checkErr(t, keep(), book("tea 0 1099511627276 0", h), saga(7), api.OK)
	checkErr(t, holding(), book("tea 1099511627276 0 0", h), put(9, 0, "tea 1048576"), api.OK)
	checkErr(t, unkeep(), book("tea 0 1099511627276 0", h), put(9, 0, "tea 1048576"), api.OK)
	checkErr(t, send(), book("tea 0 1048576 1099510578700", h), sent("tea 1048576"), api.OK)
}

// TestPutPlaces is of P14.2 and P14.3: holds of each Saga that stand ahead of
// all, behind all, between two, or are there already, with each Until at the
// edges.
func TestPutPlaces(t *testing.T) {
	for _, c := range []call{holding(), unkeep()} {
		for _, size := range sizes()[1:] {
			b := some(size[0], size[1])
			for saga := 1; saga < 10*size[1]+20; saga++ {
				want := api.OK
				if saga%10 == 0 && saga <= 10*size[1] {
					want = api.ErrTwice
				} else if size[1] == maxSagas {
					want = api.ErrFull
				}
				checkErr(t, c, b, put(saga, saga%3, "1 2"), want)
			}
			if size[1] == maxSagas {
				continue
			}
			for _, until := range []int{0, 1, 5, maxQty + 1, 1 << 32, most - 1, most} {
				got := checkErr(t, c, b, put(most, until, "1 2"), api.OK)
				if last := got.Holds[len(got.Holds)-1]; last.Saga != most || last.Until != until || !slices.Equal(last.Lines, of("1 2")) {
					t.Errorf("%s of saga %d until %d is %s", c.name, most, until, short(got))
				}
			}
		}
	}
}

// TestPutOfBad is of P14.2 and P14.3: a hold that may not be, for each reason,
// also where its saga has one or there is no room.
func TestPutOfBad(t *testing.T) {
	for _, c := range []call{holding(), unkeep()} {
		for _, size := range sizes() {
			for _, saga := range []int{5, 10, 160, 165, most} {
				for _, h := range badHolds(saga) {
					checkErr(t, c, some(size[0], size[1]), putOf(h), api.ErrArg)
				}
			}
		}
	}
}

// TestDrop is of P14.2: the first, each middle and the last hold of books of
// each size, and sagas that have none.
func TestDrop(t *testing.T) {
	for _, c := range []call{release(), keep()} {
		for _, size := range sizes() {
			b := some(size[0], size[1])
			for n := -1; n < 10*size[1]+20; n++ {
				want := api.ErrNone
				if n >= 10 && n%10 == 0 && n <= 10*size[1] {
					want = api.OK
				}
				got := checkErr(t, c, b, saga(n), want)
				if want == api.OK && len(got.Holds) != size[1]-1 {
					t.Errorf("%s of saga %d is %s", c.name, n, short(got))
				}
			}
			for _, n := range append(badCounts(), 1<<32+10, most, most-1) {
				checkErr(t, c, b, saga(n), api.ErrNone)
			}
		}
		checkErr(t, c, book("tea 5 0 0", hold(most, 0, "tea 1")), saga(most), api.OK)
		checkErr(t, c, book("tea 5 0 0", hold(1, most, "tea 1")), saga(1), api.OK)
	}
}

// TestSend is of P14.3: each Sku of books of each size, and lines that may not
// be; what is held stays.
func TestSend(t *testing.T) {
	for _, size := range sizes() {
		b := some(size[0], size[1])
		for _, l := range badLines() {
			checkErr(t, send(), b, given{l: l}, api.ErrArg)
		}
		for at, x := range b.Skus {
			for n := 1; n <= x.Kept; n += 7 {
				checkErr(t, send(), b, given{l: []api.Line{{Sku: x.Name, N: n}}}, api.OK)
			}
			got := checkErr(t, send(), b, given{l: []api.Line{{Sku: x.Name, N: x.Kept}}}, api.OK)
			if y := got.Skus[at]; y.Kept != 0 || y.Sent != x.Sent+x.Kept || y.In != x.In || len(got.Holds) != size[1] {
				t.Errorf("Send of all of %v is %s", x, short(got))
			}
			for _, n := range []int{x.Kept + 1, x.Hand + x.Kept, maxQty} {
				checkErr(t, send(), b, given{l: []api.Line{{Sku: x.Name, N: n}}}, api.ErrStock)
			}
		}
		for first := range max(size[0]-3, 0) {
			var l []api.Line
			for i, s := range names()[first : first+4] {
				l = append(l, api.Line{Sku: s, N: 1 + 9*i})
			}
			checkErr(t, send(), b, given{l: l}, api.OK)
		}
	}
}

// TestUnfit is of P14.1 to P14.3 and rule 0.2: each call of a book that is not
// fit is ErrBad, whatever else may be wrong.
func TestUnfit(t *testing.T) {
	bad := badHolds(10)
	for i, b := range unfit() {
		for _, c := range calls() {
			for _, g := range []given{{}, {sku: "1", n: 1, saga: 10, l: of("1 1")}, {sku: "zz", n: 3, saga: 165, l: of("1 1"), until: 5}, {sku: "Tea", n: 0, saga: 5, l: of("zz 9")}, {sku: "tea", n: -1, saga: 160, l: bad[i%len(bad)].Lines, until: -1}} {
				checkIs(t, c, b, g, ledger.Book{}, api.ErrBad)
			}
		}
	}
	for _, b := range []ledger.Book{{Skus: make([]api.Sku, 1<<16)}, {Holds: make([]api.Hold, 1<<16)}, {Skus: some(1, 0).Skus, Holds: []api.Hold{{Saga: 1, Lines: make([]api.Line, 1<<16)}}}} {
		for _, c := range calls() {
			checkIs(t, c, b, given{sku: "1", n: 1, saga: 1, l: of("1 1")}, ledger.Book{}, api.ErrBad)
		}
	}
}

// TestErrorsInOrder is of rule 0.2: of each pair of errors, the one that the
// chapter names first.
func TestErrorsInOrder(t *testing.T) {
	full, half, small := some(12, 16), some(12, 3), some(11, 3)
	bad := some(12, 16)
	bad.Skus[11].In++
	most12 := some(12, 0)
	most12.Skus[0] = api.Sku{Name: "1", Sent: most, In: most}
	for _, c := range []struct {
		name string
		c    call
		b    ledger.Book
		g    given
		want api.Errno
	}{
		{"bad, form", restock(), bad, sku("Tea", 1), api.ErrBad}, {"bad, full", restock(), bad, sku("zz", 1), api.ErrBad}, {"bad, range", restock(), bad, sku("tea", 0), api.ErrBad}, {"bad, over", restock(), bad, sku("tea", most), api.ErrBad},
		{"form, full", restock(), full, sku("Tea", 1), api.ErrForm}, {"form, range", restock(), small, sku("Tea", 0), api.ErrForm}, {"form, full, range", restock(), full, sku("", most+1), api.ErrForm},
		{"full, range", restock(), full, sku("zz", 0), api.ErrFull}, {"full, range", restock(), full, sku("0", math.MinInt), api.ErrFull}, {"range, over", restock(), most12, sku("1", most+1), api.ErrRange},
		{"bad, none", adjust(), bad, sku("zz", 1), api.ErrBad}, {"bad, range", adjust(), bad, sku("tea", 0), api.ErrBad}, {"bad, stock", adjust(), bad, sku("tea", -most), api.ErrBad}, {"bad, over", adjust(), bad, sku("tea", most), api.ErrBad},
		{"none, range", adjust(), full, sku("zz", 0), api.ErrNone}, {"none, range", adjust(), full, sku("Tea", most+1), api.ErrNone},
		{"range, stock", adjust(), most12, sku("1", -most-1), api.ErrRange}, {"range, over", adjust(), most12, sku("1", most+1), api.ErrRange},
		{"bad, arg", send(), bad, given{}, api.ErrBad}, {"bad, stock", send(), bad, sent("tea 9999"), api.ErrBad},
		{"arg, stock", send(), full, sent("tea 9999, b 1"), api.ErrArg}, {"arg, stock", send(), full, sent("tea 1048577"), api.ErrArg}, {"arg, no Sku", send(), full, sent("zz 0"), api.ErrArg}, {"arg, no Sku", send(), full, sent("Tea 1"), api.ErrArg},
		{"bad, none", release(), bad, saga(5), api.ErrBad}, {"bad, none", keep(), bad, saga(5), api.ErrBad},
	} {
		checkErr(t, c.c, c.b, c.g, c.want)
	}
	for _, c := range []call{holding(), unkeep()} {
		checkErr(t, c, bad, given{saga: 5}, api.ErrBad)
		checkErr(t, c, bad, put(10, 0, "1 1"), api.ErrBad)
		checkErr(t, c, bad, put(5, 0, "1 1"), api.ErrBad)
		checkErr(t, c, bad, put(5, 0, "1 9999"), api.ErrBad)
		checkErr(t, c, half, given{saga: 10}, api.ErrArg)
		checkErr(t, c, full, given{saga: 5}, api.ErrArg)
		checkErr(t, c, half, put(5, 0, "1 1048577"), api.ErrArg)
		checkErr(t, c, half, put(5, most+1, "zz 1"), api.ErrArg)
		checkErr(t, c, half, put(0, 0, "zz 1"), api.ErrArg)
		checkErr(t, c, full, put(10, 0, "1 1"), api.ErrTwice)
		checkErr(t, c, half, put(10, 0, "1 9999"), api.ErrTwice)
		checkErr(t, c, half, put(30, 0, "zz 1"), api.ErrTwice)
		checkErr(t, c, full, put(160, 0, "zz 1"), api.ErrTwice)
		checkErr(t, c, full, put(5, 0, "1 9999"), api.ErrFull)
		checkErr(t, c, full, put(165, 0, "zz 1"), api.ErrFull)
		checkErr(t, c, half, put(165, 0, "zz 1"), api.ErrStock)
	}
}
