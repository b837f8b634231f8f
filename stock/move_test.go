package stock_test

import (
	"math"
	"testing"

	"drayman/api"
	"drayman/stock"
)

// move is one of the five: from which count it transfers to which one (see
// count), and the move that is its opposite, if it has one.
type move struct {
	name     string
	do       func(x api.Sku, n int) (api.Sku, api.Errno)
	from, to int
	back     func(x api.Sku, n int) (api.Sku, api.Errno)
}

// moves are the five moves, as the chapter defines them.
func moves() []move {
	return []move{
		{"Hold", stock.Hold, 0, 1, stock.Release},
		{"Release", stock.Release, 1, 0, stock.Hold},
		{"Keep", stock.Keep, 1, 2, stock.Unkeep},
		{"Unkeep", stock.Unkeep, 2, 1, stock.Keep},
		{"Send", stock.Send, 2, 3, nil},
	}
}

// want is the reference of a move.
func (m move) want(x api.Sku, n int) (api.Sku, api.Errno) {
	switch {
	case !wantFit(x):
		return api.Sku{}, api.ErrBad
	case n < 1 || n > maxQty:
		return api.Sku{}, api.ErrRange
	case *count(&x, m.from) < n:
		return api.Sku{}, api.ErrStock
	}
	counts := [4]int{x.Hand, x.Held, x.Kept, x.Sent}
	counts[m.from] -= n
	counts[m.to] += n
	return api.Sku{Name: x.Name, Hand: counts[0], Held: counts[1], Kept: counts[2], Sent: counts[3], In: x.In}, api.OK
}

// call is the move as a call.
func (m move) call() call { return call{m.name, m.do, m.want} }

// with makes an item of which the count that a move transfers from is n, and
// the others are 11, 12, 13 and 14.
func (m move) with(n int) api.Sku {
	x := of(11, 12, 13, 14)
	*count(&x, m.from) = n
	return of(x.Hand, x.Held, x.Kept, x.Sent)
}

// TestMovesByHand is of P12.1: each move of items written out.
func TestMovesByHand(t *testing.T) {
	x := of(5, 6, 7, 8)
	for i, want := range [][]api.Sku{
		{of(4, 7, 7, 8), of(0, 11, 7, 8)}, {of(6, 5, 7, 8), of(11, 0, 7, 8)}, {of(5, 5, 8, 8), of(5, 0, 13, 8)}, {of(5, 7, 6, 8), of(5, 13, 0, 8)}, {of(5, 6, 6, 9), of(5, 6, 0, 15)},
	} {
		m := moves()[i]
		all := *count(&x, m.from)
		checkIs(t, m.call(), x, 1, want[0], api.OK)
		checkIs(t, m.call(), x, all, want[1], api.OK)
		checkIs(t, m.call(), x, all+1, api.Sku{}, api.ErrStock)
		checkIs(t, m.call(), want[1], 1, api.Sku{}, api.ErrStock)
		checkIs(t, m.call(), x, 0, api.Sku{}, api.ErrRange)
		checkIs(t, m.call(), x, -1, api.Sku{}, api.ErrRange)
	}
}

// TestMoveRange is of P12.1: numbers that are no quantity, of items that have
// enough and such as do not; and those at the edges that are one.
func TestMoveRange(t *testing.T) {
	for _, m := range moves() {
		for _, x := range []api.Sku{m.with(0), m.with(1), m.with(5), m.with(maxQty - 1), m.with(maxQty), m.with(maxQty + 1), m.with(2 * maxQty), m.with(1 << 32), m.with(most - 100)} {
			for _, n := range numbers() {
				_, err := check(t, m.call(), x, n)
				if (err == api.ErrRange) != (n < 1 || n > 1048576) {
					t.Errorf("%s(%v, %d) is %d", m.name, x, n, err)
				}
			}
		}
		checkIs(t, m.call(), m.with(0), maxQty+1, api.Sku{}, api.ErrRange)
		checkIs(t, m.call(), m.with(0), maxQty, api.Sku{}, api.ErrStock)
		checkIs(t, m.call(), m.with(maxQty+1), maxQty+1, api.Sku{}, api.ErrRange)
	}
}

// TestMoveStock is of P12.1: just as many as there are, one less and one more;
// the other counts have more and do not help, nor does In.
func TestMoveStock(t *testing.T) {
	for _, m := range moves() {
		for _, has := range []int{0, 1, 2, 3, 10, 255, 256, 1000, 1 << 16, maxQty - 1, maxQty, maxQty + 1} {
			for _, others := range []int{0, 1, has, has + 1, maxQty, 1 << 32, most / 4} {
				x := of(others, others, others, others)
				*count(&x, m.from) = has
				x = of(x.Hand, x.Held, x.Kept, x.Sent)
				for _, n := range []int{has - 1, has, has + 1, others, 2 * has} {
					_, err := check(t, m.call(), x, n)
					if n >= 1 && n <= maxQty && (err == api.ErrStock) != (has < n) {
						t.Errorf("%s(%v, %d) is %d", m.name, x, n, err)
					}
				}
			}
		}
	}
}

// TestMoveFull is of P12.1: items that have Most in all, wherever it lies.
func TestMoveFull(t *testing.T) {
	for _, m := range moves() {
		for _, x := range []api.Sku{of(most, 0, 0, 0), of(0, most, 0, 0), of(0, 0, most, 0), of(0, 0, 0, most), of(most/4, most/4, most/4, most/4),
			of(most-maxQty, maxQty, 0, 0), of(maxQty, most-maxQty, 0, 0), of(0, maxQty, most-maxQty, 0), of(0, most-maxQty, maxQty, 0), of(0, 0, maxQty, most-maxQty), of(0, 0, 1, most-1), of(1, most-1, 0, 0)} {
			for _, n := range []int{1, 2, maxQty - 1, maxQty, maxQty + 1} {
				got, err := check(t, m.call(), x, n)
				if err == api.OK && got.In != most {
					t.Errorf("%s(%v, %d) is %v", m.name, x, n, got)
				}
			}
		}
	}
}

// TestMoveOthers is of P12.1 and P12.3: the two counts of a move change by the
// number, and nothing else does.
func TestMoveOthers(t *testing.T) {
	for _, m := range moves() {
		for _, name := range goodNames() {
			for _, n := range []int{1, 2, 7, 1000, maxQty} {
				x := of(most/8+1, most/8+2, most/8+3, most/8+4)
				x.Name = name
				got, err := m.do(x, n)
				if err != api.OK || got.Name != name || got.In != x.In {
					t.Errorf("%s(%v, %d) is %v, %d", m.name, x, n, got, err)
				}
				for i := range 4 {
					by := map[int]int{m.from: -n, m.to: n}[i]
					if *count(&got, i) != *count(&x, i)+by {
						t.Errorf("%s(%v, %d) is %v", m.name, x, n, got)
					}
				}
			}
		}
	}
}

// TestMoveOfEach is of P12.1 and P12.3: all items of small counts, fit or not,
// and all small numbers.
func TestMoveOfEach(t *testing.T) {
	errs := map[api.Errno]int{}
	everySmall(4, func(x api.Sku) {
		for _, in := range []int{x.In, x.In - 1, x.In + 1} {
			x.In = in
			for _, m := range moves() {
				for n := -1; n <= 5; n++ {
					_, err := check(t, m.call(), x, n)
					errs[err]++
				}
			}
		}
	})
	for _, err := range []api.Errno{api.OK, api.ErrBad, api.ErrRange, api.ErrStock} {
		if errs[err] < 100 {
			t.Errorf("only %d calls were answered with %d", errs[err], err)
		}
	}
	if len(errs) != 4 {
		t.Errorf("the answers are %v", errs)
	}
}

// everySmall calls do with each item of counts below a number.
func everySmall(below int, do func(x api.Sku)) {
	for hand := range below {
		for held := range below {
			for kept := range below {
				for sent := range below {
					do(of(hand, held, kept, sent))
				}
			}
		}
	}
}

// TestMoveOfSeveralErrors is of P12.1 and rule 0.2: each pair of errors, and
// all three, is the first that the chapter names.
func TestMoveOfSeveralErrors(t *testing.T) {
	for _, m := range moves() {
		bad := m.with(5)
		bad.In++
		none := m.with(0)
		none.Name = "Tea"
		checkIs(t, m.call(), bad, 3, api.Sku{}, api.ErrBad)
		checkIs(t, m.call(), bad, 6, api.Sku{}, api.ErrBad)
		checkIs(t, m.call(), none, 1, api.Sku{}, api.ErrBad)
		for _, n := range []int{0, -1, maxQty + 1, math.MinInt, math.MaxInt} {
			checkIs(t, m.call(), bad, n, api.Sku{}, api.ErrBad)
			checkIs(t, m.call(), none, n, api.Sku{}, api.ErrBad)
			checkIs(t, m.call(), m.with(5), n, api.Sku{}, api.ErrRange)
			checkIs(t, m.call(), m.with(0), n, api.Sku{}, api.ErrRange)
		}
		checkIs(t, m.call(), m.with(5), 6, api.Sku{}, api.ErrStock)
	}
}

// TestMoveAndBack is of P12.4: a move and its opposite, of small items and of
// such as have Most.
func TestMoveAndBack(t *testing.T) {
	many := 0
	back := func(x api.Sku, n int) {
		for _, m := range moves() {
			got, err := m.do(x, n)
			if m.back == nil || err != api.OK {
				continue
			}
			many++
			if again, err := m.back(got, n); again != x || err != api.OK {
				t.Fatalf("%s(%v, %d) and back is %v, %d", m.name, x, n, again, err)
			}
			if n > 1 {
				part, _ := m.back(got, n-1)
				if again, err := m.back(part, 1); again != x || err != api.OK {
					t.Fatalf("%s(%v, %d) and back in two is %v, %d", m.name, x, n, again, err)
				}
			}
		}
	}
	everySmall(5, func(x api.Sku) {
		for n := 1; n <= 4; n++ {
			back(x, n)
		}
	})
	for _, x := range []api.Sku{of(most, 0, 0, 0), of(0, most, 0, 0), of(0, 0, most, 0), of(most/4, most/4, most/4, most/4), of(maxQty, maxQty, maxQty, maxQty), of(maxQty, most-2*maxQty, maxQty, 0)} {
		for _, n := range []int{1, 2, 1000, maxQty - 1, maxQty} {
			back(x, n)
		}
	}
	if many < 1000 {
		t.Errorf("only %d moves were taken back", many)
	}
}
