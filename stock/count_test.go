package stock_test

import (
	"math"
	"testing"

	"drayman/api"
	"drayman/stock"
)

// wantRestock is the reference of Restock.
func wantRestock(x api.Sku, n int) (api.Sku, api.Errno) {
	switch {
	case !wantFit(x):
		return api.Sku{}, api.ErrBad
	case n < 1 || n > most:
		return api.Sku{}, api.ErrRange
	case x.In+n > most:
		return api.Sku{}, api.ErrOver
	}
	return api.Sku{Name: x.Name, Hand: x.Hand + n, Held: x.Held, Kept: x.Kept, Sent: x.Sent, In: x.In + n}, api.OK
}

// wantAdjust is the reference of Adjust.
func wantAdjust(x api.Sku, by int) (api.Sku, api.Errno) {
	switch {
	case !wantFit(x):
		return api.Sku{}, api.ErrBad
	case by == 0 || by < -most || by > most:
		return api.Sku{}, api.ErrRange
	case x.Hand+by < 0:
		return api.Sku{}, api.ErrStock
	case x.In+by > most:
		return api.Sku{}, api.ErrOver
	}
	return api.Sku{Name: x.Name, Hand: x.Hand + by, Held: x.Held, Kept: x.Kept, Sent: x.Sent, In: x.In + by}, api.OK
}

// restock and adjust are the two as calls.
func restock() call { return call{"Restock", stock.Restock, wantRestock} }
func adjust() call  { return call{"Adjust", stock.Adjust, wantAdjust} }

// ofIn are items with this In, which lies here and there.
func ofIn(in int) []api.Sku {
	l := []api.Sku{of(in, 0, 0, 0), of(0, in, 0, 0), of(0, 0, in, 0), of(0, 0, 0, in), of(in/4, in/4, in/4, in-3*(in/4)), of(in-in/2, in/2, 0, 0)}
	if in >= 3 {
		l = append(l, of(1, in-1, 0, 0), of(1, 0, 0, in-1), of(in-1, 0, 1, 0), of(in-3, 1, 1, 1))
	}
	return l
}

// TestRestockByHand is of P12.2: items written out.
func TestRestockByHand(t *testing.T) {
	for _, c := range []struct {
		x    api.Sku
		n    int
		want api.Sku
		err  api.Errno
	}{
		{of(0, 0, 0, 0), 1, of(1, 0, 0, 0), api.OK}, {of(0, 0, 0, 0), 5, of(5, 0, 0, 0), api.OK}, {of(5, 6, 7, 8), 3, of(8, 6, 7, 8), api.OK}, {of(0, 0, 0, 8), 3, of(3, 0, 0, 8), api.OK},
		{of(0, 0, 0, 0), 0, api.Sku{}, api.ErrRange}, {of(0, 0, 0, 0), -1, api.Sku{}, api.ErrRange}, {of(5, 0, 0, 0), -5, api.Sku{}, api.ErrRange},
		{of(0, 0, 0, 0), most, of(most, 0, 0, 0), api.OK}, {of(0, 0, 0, 0), most + 1, api.Sku{}, api.ErrRange}, {of(0, 0, 0, 0), maxQty + 1, of(maxQty+1, 0, 0, 0), api.OK},
		{of(1, 0, 0, 0), most, api.Sku{}, api.ErrOver}, {of(1, 0, 0, 0), most - 1, of(most, 0, 0, 0), api.OK}, {of(most, 0, 0, 0), 1, api.Sku{}, api.ErrOver}, {of(most, 0, 0, 0), most, api.Sku{}, api.ErrOver},
		{of(0, 0, 0, 1), most - 1, of(most-1, 0, 0, 1), api.OK}, {of(0, 0, 0, 1), most, api.Sku{}, api.ErrOver}, {of(0, 0, 0, most), 1, api.Sku{}, api.ErrOver}, {of(0, most-1, 0, 0), 1, of(1, most-1, 0, 0), api.OK},
		{of(1, 1, 1, 1), most - 4, of(most-3, 1, 1, 1), api.OK}, {of(1, 1, 1, 1), most - 3, api.Sku{}, api.ErrOver},
	} {
		checkIs(t, restock(), c.x, c.n, c.want, c.err)
	}
}

// TestAdjustByHand is of P12.2: items written out.
func TestAdjustByHand(t *testing.T) {
	for _, c := range []struct {
		x    api.Sku
		by   int
		want api.Sku
		err  api.Errno
	}{
		{of(0, 0, 0, 0), 1, of(1, 0, 0, 0), api.OK}, {of(5, 6, 7, 8), 3, of(8, 6, 7, 8), api.OK}, {of(5, 6, 7, 8), -3, of(2, 6, 7, 8), api.OK}, {of(5, 6, 7, 8), -5, of(0, 6, 7, 8), api.OK},
		{of(5, 6, 7, 8), -6, api.Sku{}, api.ErrStock}, {of(0, 6, 7, 8), -1, api.Sku{}, api.ErrStock}, {of(0, 0, 0, 0), -1, api.Sku{}, api.ErrStock}, {of(1, 0, 0, 0), -1, of(0, 0, 0, 0), api.OK},
		{of(5, 0, 0, 0), 0, api.Sku{}, api.ErrRange}, {of(0, 0, 0, 0), 0, api.Sku{}, api.ErrRange}, {of(most, 0, 0, 0), 0, api.Sku{}, api.ErrRange},
		{of(0, 0, 0, 0), most, of(most, 0, 0, 0), api.OK}, {of(0, 0, 0, 0), most + 1, api.Sku{}, api.ErrRange}, {of(1, 0, 0, 0), most, api.Sku{}, api.ErrOver}, {of(0, 0, 0, 1), most, api.Sku{}, api.ErrOver},
		{of(most, 0, 0, 0), -most, of(0, 0, 0, 0), api.OK}, {of(most-1, 0, 0, 0), -most, api.Sku{}, api.ErrStock}, {of(most-1, 1, 0, 0), -most, api.Sku{}, api.ErrStock}, {of(most, 0, 0, 0), -most - 1, api.Sku{}, api.ErrRange},
		{of(most-1, 1, 0, 0), -most + 1, of(0, 1, 0, 0), api.OK}, {of(most, 0, 0, 0), 1, api.Sku{}, api.ErrOver}, {of(0, 0, 0, most), 1, api.Sku{}, api.ErrOver}, {of(0, 0, 0, most-1), 1, of(1, 0, 0, most-1), api.OK},
		{of(most, 0, 0, 0), -1, of(most-1, 0, 0, 0), api.OK}, {of(1, 0, 0, most-1), -1, of(0, 0, 0, most-1), api.OK}, {of(0, 0, 0, most), -1, api.Sku{}, api.ErrStock},
	} {
		checkIs(t, adjust(), c.x, c.by, c.want, c.err)
	}
}

// TestOfEachNumber is of P12.2: each number at the edges, of items with each In
// at the edges.
func TestOfEachNumber(t *testing.T) {
	for _, in := range []int{0, 1, 2, 3, 5, 100, maxQty, 1 << 32, most/2 - 1, most / 2, most/2 + 1, most - maxQty, most - 3, most - 2, most - 1, most} {
		for _, x := range ofIn(in) {
			for _, n := range numbers() {
				_, err := check(t, restock(), x, n)
				if (err == api.ErrRange) != (n < 1 || n > 1099511627776) {
					t.Errorf("Restock(%v, %d) is %d", x, n, err)
				}
				_, err = check(t, adjust(), x, n)
				if (err == api.ErrRange) != (n == 0 || n < -1099511627776 || n > 1099511627776) {
					t.Errorf("Adjust(%v, %d) is %d", x, n, err)
				}
			}
		}
	}
}

// TestOver is of P12.2: In at Most less n, one less and one more, wherever it
// lies; Hand alone is below it.
func TestOver(t *testing.T) {
	for _, c := range []call{restock(), adjust()} {
		for _, n := range []int{1, 2, 3, 1000, maxQty, maxQty + 1, 1 << 32, most / 2, most - 2, most - 1, most} {
			for _, by := range []int{-1, 0, 1} {
				in := most - n + by
				if in < 0 || in > most {
					continue
				}
				for _, x := range ofIn(in) {
					got, err := check(t, c, x, n)
					if (err == api.ErrOver) != (by == 1) {
						t.Errorf("%s(%v, %d) is %d", c.name, x, n, err)
					}
					if by == 0 && got.In != most {
						t.Errorf("%s(%v, %d) is %v", c.name, x, n, got)
					}
				}
			}
		}
	}
}

// TestStock is of P12.2: Adjust by as many as Hand is, one less and one more;
// what is held, kept and sent does not help.
func TestStock(t *testing.T) {
	for _, n := range []int{1, 2, 3, 1000, maxQty, maxQty + 1, 1 << 32, most / 2, most - 3, most - 2, most - 1, most} {
		for _, by := range []int{-1, 0, 1} {
			hand := n + by
			if hand > most {
				continue
			}
			rest := most - hand
			for _, x := range []api.Sku{of(hand, 0, 0, 0), of(hand, rest, 0, 0), of(hand, 0, rest, 0), of(hand, 0, 0, rest), of(hand, rest/4, rest/4, rest/4)} {
				got, err := check(t, adjust(), x, -n)
				if (err == api.ErrStock) != (by == -1) {
					t.Errorf("Adjust(%v, %d) is %d", x, -n, err)
				}
				if by == 0 && got.Hand != 0 {
					t.Errorf("Adjust(%v, %d) is %v", x, -n, got)
				}
			}
		}
	}
}

// TestCountsOfEach is of P12.2 and P12.3: all items of small counts, fit or
// not, and all small numbers.
func TestCountsOfEach(t *testing.T) {
	errs := map[api.Errno]int{}
	everySmall(4, func(x api.Sku) {
		for _, in := range []int{x.In, x.In - 1, x.In + 1} {
			x.In = in
			for n := -5; n <= 5; n++ {
				for _, c := range []call{restock(), adjust()} {
					_, err := check(t, c, x, n)
					errs[err]++
				}
			}
		}
	})
	for _, err := range []api.Errno{api.OK, api.ErrBad, api.ErrRange, api.ErrStock} {
		if errs[err] < 100 {
			t.Errorf("only %d calls were answered with %d", errs[err], err)
		}
	}
}

// TestCountsOfNames is of P12.2: the Name is what it was.
func TestCountsOfNames(t *testing.T) {
	for _, s := range goodNames() {
		x := of(5, 6, 7, 8)
		x.Name = s
		want := of(8, 6, 7, 8)
		want.Name = s
		checkIs(t, restock(), x, 3, want, api.OK)
		checkIs(t, adjust(), x, 3, want, api.OK)
		checkIs(t, adjust(), want, -3, x, api.OK)
	}
}

// TestCountsOfSeveralErrors is of P12.2 and rule 0.2: each pair of errors is
// the first that the chapter names.
func TestCountsOfSeveralErrors(t *testing.T) {
	full, empty := of(0, 0, 0, most), of(0, 5, 6, 7)
	badFull, badEmpty := full, empty
	badFull.Name, badEmpty.Name = "Tea", ""
	for _, c := range []call{restock(), adjust()} {
		for _, n := range []int{0, most + 1, -most - 1, math.MinInt, math.MaxInt} {
			for _, x := range []api.Sku{badFull, badEmpty} {
				checkIs(t, c, x, n, api.Sku{}, api.ErrBad)
			}
			for _, x := range []api.Sku{full, empty} {
				checkIs(t, c, x, n, api.Sku{}, api.ErrRange)
			}
		}
		checkIs(t, c, badFull, 1, api.Sku{}, api.ErrBad)
		checkIs(t, c, full, 1, api.Sku{}, api.ErrOver)
	}
	checkIs(t, adjust(), badEmpty, -1, api.Sku{}, api.ErrBad)
	checkIs(t, adjust(), empty, -1, api.Sku{}, api.ErrStock)
	checkIs(t, restock(), badEmpty, -1, api.Sku{}, api.ErrBad)
	checkIs(t, restock(), empty, -1, api.Sku{}, api.ErrRange)
	checkIs(t, restock(), full, -1, api.Sku{}, api.ErrRange)
}
