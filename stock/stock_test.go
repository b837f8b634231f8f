package stock_test

import (
	"math"
	"math/big"
	"regexp"
	"strings"
	"testing"

	"drayman/api"
	"drayman/stock"
)

const (
	most   = 1 << 40
	maxQty = 1 << 20
)

// nameForm is the form of a name, as chapter 2 defines it.
var nameForm = regexp.MustCompile(`^[a-z0-9\x{df}-\x{f6}\x{f8}-\x{ff}][-a-z0-9\x{df}-\x{f6}\x{f8}-\x{ff}]{0,11}$`)

// goodNames are names, of the least and the greatest length among them.
func goodNames() []string {
	return []string{"tea", "a", "0", "a-", "a--", "9-z", "abcdefghijkl", "a----------b", "ß", "äöü", strings.Repeat("ä", 12), strings.Repeat("ÿ", 12)}
}

// badNames are none: empty, too long, of other case, and such as have other
// runes, or bytes that are no rune.
func badNames() []string {
	return []string{"", "-", "-a", " ", "a ", " a", "a b", "a:", "a,b", "a.b", "a_b", "\x00", "a\x00", "a\n",
		"A", "Tea", "tEA", "teA", "TEA", "Z", "Ä", "ä-Ä", "Þ", "À", "÷", "×", "Ā", "€", "𝔞", "\ufffd", "\xff", "a\xff", "\xc3", "\xa4", "\xc0\xa1", "\xed\xa0\x80",
		"abcdefghijklm", "ABCDEFGHIJKL", strings.Repeat("ä", 13), strings.Repeat("a", 24), strings.Repeat("a", 1<<16)}
}

// badCounts are numbers that no count may have.
func badCounts() []int {
	return []int{-1, -2, -maxQty, -1 << 32, -most, -most - 1, -1 << 62, math.MinInt + 1, math.MinInt,
		most + 1, most + 2, 2 * most, 1 << 62, math.MaxInt - 1, math.MaxInt}
}

// numbers are at and beside the edges of all that is handed in as a number.
func numbers() []int {
	return []int{math.MinInt, math.MinInt + 1, -1 << 62, -most - 1, -most, -most + 1, -1<<32 + 1, -1 << 32, -maxQty - 1, -maxQty, -2, -1, 0, 1, 2, 3, 5,
		maxQty - 1, maxQty, maxQty + 1, 1<<32 - 1, 1 << 32, 1<<32 + 1, most - 1, most, most + 1, 1 << 62, math.MaxInt - 1, math.MaxInt}
}

// of makes an item of these counts whose In is their sum, as int has it.
func of(hand, held, kept, sent int) api.Sku {
	return api.Sku{Name: "tea", Hand: hand, Held: held, Kept: kept, Sent: sent, In: hand + held + kept + sent}
}

// count is the count of an item that has this number: those of the definition
// of a move, in their order.
func count(x *api.Sku, i int) *int {
	return [...]*int{&x.Hand, &x.Held, &x.Kept, &x.Sent, &x.In}[i]
}

// amount is the reference of an amount.
func amount(n int) bool { return n >= 0 && n <= most }

// wantFit is the reference of Fit. Its sum can't leave any bounds.
func wantFit(x api.Sku) bool {
	sum := new(big.Int)
	is := nameForm.MatchString(x.Name) && amount(x.In)
	for i := range 4 {
		is = is && amount(*count(&x, i))
		sum.Add(sum, big.NewInt(int64(*count(&x, i))))
	}
	return is && sum.Cmp(big.NewInt(int64(x.In))) == 0
}

// call is a function of an item and a number.
type call struct {
	name string
	do   func(x api.Sku, n int) (api.Sku, api.Errno)
	want func(x api.Sku, n int) (api.Sku, api.Errno)
}

// calls are all that change an item.
func calls() []call {
	l := []call{{"Restock", stock.Restock, wantRestock}, {"Adjust", stock.Adjust, wantAdjust}}
	for _, m := range moves() {
		l = append(l, call{m.name, m.do, m.want})
	}
	return l
}

// check holds an answer of a call against its reference, and an answer that is
// an item against what it must be.
func check(t *testing.T, c call, x api.Sku, n int) (api.Sku, api.Errno) {
	t.Helper()
	want, wantErr := c.want(x, n)
	return checkIs(t, c, x, n, want, wantErr)
}

// checkIs holds an answer of a call against what is wanted.
func checkIs(t *testing.T, c call, x api.Sku, n int, want api.Sku, wantErr api.Errno) (api.Sku, api.Errno) {
	t.Helper()
	got, err := c.do(x, n)
	if got != want || err != wantErr {
		t.Fatalf("%s(%.200v, %d) is %v, %d; want %v, %d", c.name, x, n, got, err, want, wantErr)
	}
	if err != api.OK && got != (api.Sku{}) {
		t.Fatalf("%s(%.200v, %d) tells %v beside %d", c.name, x, n, got, err)
	}
	if err == api.OK && (!wantFit(got) || !stock.Fit(got)) {
		t.Fatalf("%s(%.200v, %d) is %v, which is not fit", c.name, x, n, got)
	}
	return got, err
}

// unfit are items that are not fit, each for one reason, or for one more that
// follows from it.
func unfit() []api.Sku {
	l := []api.Sku{{}, {Name: "Tea"}}
	for _, s := range badNames() {
		for _, x := range []api.Sku{{}, of(5, 4, 3, 2), of(most, 0, 0, 0)} {
			x.Name = s
			l = append(l, x)
		}
	}
	for _, n := range badCounts() {
		for i := range 4 {
			l = append(l, badCount(i, n)...)
		}
		x := of(5, 4, 3, 2)
		x.In = n
		l = append(l, x)
	}
	for _, x := range []api.Sku{of(0, 0, 0, 0), of(5, 0, 0, 0), of(0, 5, 0, 0), of(0, 0, 5, 0), of(0, 0, 0, 5), of(5, 4, 3, 2), of(maxQty, maxQty, maxQty, maxQty), of(most, 0, 0, 0), of(0, 0, 0, most), of(most/4, most/4, most/4, most/4)} {
		for _, by := range []int{-1, 1, -2, 2, -x.Hand - 1, -x.Sent - 1, most + 1, -most - 1, math.MinInt, math.MaxInt, 1 << 32, -1 << 32, 1 << 62} {
			y := x
			y.In += by
			l = append(l, y)
		}
	}
	return append(l, farSums()...)
}

// badCount are items whose count with this number is n, which is no amount:
// with an In that was right before, and one that is the sum; and with another
// count that makes the sum an amount.
func badCount(i, n int) []api.Sku {
	var l []api.Sku
	for _, x := range []api.Sku{of(0, 0, 0, 0), of(5, 4, 3, 2)} {
		*count(&x, i) = n
		l = append(l, x, of(x.Hand, x.Held, x.Kept, x.Sent))
		for j := range 4 {
			if j == i {
				continue
			}
			y := x
			*count(&y, j) = -n
			l = append(l, of(y.Hand, y.Held, y.Kept, y.Sent))
			*count(&y, j) = 7 - n
			l = append(l, of(y.Hand, y.Held, y.Kept, y.Sent))
		}
	}
	return l
}

// farSums are items whose counts have a sum that is no amount, or leaves int;
// some of them come back to an amount there.
func farSums() []api.Sku {
	var l []api.Sku
	for _, c := range [][4]int{
		{most, 1, 0, 0}, {most, 0, 1, 0}, {most, 0, 0, 1}, {1, most, 0, 0}, {0, most, 1, 0}, {0, 0, most, 1}, {1, 0, 0, most}, {most - 1, 1, 1, 0}, {most / 2, most / 2, 0, 1},
		{most/4 + 1, most / 4, most / 4, most / 4}, {most, most, 0, 0}, {0, 0, most, most}, {most, most, most, most},
		{1 << 62, 1 << 62, 1 << 62, 1 << 62}, {1<<62 + 5, 1 << 62, 1 << 62, 1 << 62}, {math.MaxInt, math.MaxInt, 2, 0}, {2, 0, math.MaxInt, math.MaxInt}, {math.MaxInt, math.MaxInt, 3, 4},
		{math.MinInt, math.MinInt, 0, 0}, {0, math.MinInt, 0, math.MinInt}, {math.MinInt, 5, math.MinInt, 3}, {math.MaxInt, math.MinInt, 1, 0}, {math.MinInt, math.MaxInt, 1, 0}, {math.MaxInt, 1, math.MinInt, 0},
		{-1 << 62, -1 << 62, -1 << 62, -1 << 62}, {math.MaxInt, math.MaxInt, math.MaxInt, math.MaxInt}, {math.MaxInt, 1, 0, 0}, {math.MaxInt, 0, 0, 0}, {math.MinInt, 0, 0, 0},
	} {
		x := of(c[0], c[1], c[2], c[3])
		l = append(l, x)
		for _, in := range []int{0, 1, most - 1, most, most + 1, math.MaxInt, math.MinInt} {
			x.In = in
			l = append(l, x)
		}
	}
	return l
}

// TestNew is of P12.1: names and what is none.
func TestNew(t *testing.T) {
	for _, s := range goodNames() {
		if got, err := stock.New(s); got != (api.Sku{Name: s}) || err != api.OK {
			t.Errorf("New(%q) is %v, %d", s, got, err)
		}
	}
	for _, s := range badNames() {
		if got, err := stock.New(s); got != (api.Sku{}) || err != api.ErrForm {
			t.Errorf("New(%.60q) is %.60v, %d", s, got, err)
		}
	}
}

// TestNewOfEachRune is of P12.1: each rune there is, alone and behind another.
func TestNewOfEachRune(t *testing.T) {
	for r := range rune(0x110000) {
		for _, s := range []string{string(r), "a" + string(r)} {
			want, wantErr := api.Sku{Name: s}, api.OK
			if !nameForm.MatchString(s) {
				want, wantErr = api.Sku{}, api.ErrForm
			}
			if got, err := stock.New(s); got != want || err != wantErr {
				t.Fatalf("New(%q) is %v, %d", s, got, err)
			}
		}
	}
}

// TestNewOfEachLength is of P12.1: names of runes of one byte and of two.
func TestNewOfEachLength(t *testing.T) {
	for n := range 60 {
		for _, r := range []string{"a", "ä", "-", "A", "\xff"} {
			for _, first := range []string{"", "a", "ä"} {
				s := first + strings.Repeat(r, n)
				if _, err := stock.New(s); (err == api.OK) != nameForm.MatchString(s) || err != api.OK && err != api.ErrForm {
					t.Errorf("New(%q) is %d", s, err)
				}
			}
		}
	}
}

// TestFit is of P12.1: items that are fit.
func TestFit(t *testing.T) {
	for _, x := range []api.Sku{
		of(0, 0, 0, 0), of(1, 0, 0, 0), of(0, 1, 0, 0), of(0, 0, 1, 0), of(0, 0, 0, 1), of(5, 4, 3, 2), of(2, 3, 0, 0),
		of(most, 0, 0, 0), of(0, most, 0, 0), of(0, 0, most, 0), of(0, 0, 0, most), of(most-1, 0, 0, 0), of(most-1, 1, 0, 0), of(1, most-1, 0, 0), of(most-3, 1, 1, 1), of(1, 1, 1, most-3),
		of(most/2, most/2, 0, 0), of(most/4, most/4, most/4, most/4), of(maxQty, maxQty, maxQty, maxQty), of(1<<32, 1<<32, 1<<32, 1<<32), of(maxQty+1, 0, 0, 0),
	} {
		if !stock.Fit(x) || !wantFit(x) {
			t.Errorf("not fit: %v", x)
		}
		for _, s := range goodNames() {
			x.Name = s
			if !stock.Fit(x) {
				t.Errorf("not fit: %v", x)
			}
		}
		for _, s := range badNames() {
			x.Name = s
			if stock.Fit(x) {
				t.Errorf("fit: %.200v", x)
			}
		}
	}
}

// TestFitOfUnfit is of P12.1: items that are not fit.
func TestFitOfUnfit(t *testing.T) {
	for _, x := range unfit() {
		if stock.Fit(x) || wantFit(x) {
			t.Errorf("fit: %.200v", x)
		}
	}
}

// TestFitOfEach is of P12.1: all small counts, and all counts at the edges,
// with an In that is the sum and with others.
func TestFitOfEach(t *testing.T) {
	edges := []int{math.MinInt, -most, -1, 0, 1, maxQty, most/2 - 1, most / 2, most/2 + 1, most - 1, most, most + 1, math.MaxInt}
	for _, l := range [][]int{{-1, 0, 1, 2, 3}, edges} {
		for _, hand := range l {
			for _, held := range l {
				for _, kept := range l {
					for _, sent := range l {
						fitOfIns(t, of(hand, held, kept, sent))
					}
				}
			}
		}
	}
}

// fitOfIns holds Fit against its reference for an item with the In that it has
// and with others.
func fitOfIns(t *testing.T, x api.Sku) {
	t.Helper()
	right := x.In
	for _, in := range []int{right, right - 1, right + 1, 0, x.Hand, x.Hand + x.Held, right - x.Sent, -right, most, most + 1, right & (1<<32 - 1), right + 1<<32, right + 1<<62} {
		x.In = in
		if got := stock.Fit(x); got != wantFit(x) {
			t.Fatalf("Fit(%v) is %t", x, got)
		}
	}
}

// TestUnfit is of P12.1, P12.2 and rule 0.2: each call of an item that is not
// fit is ErrBad, also where the number is one that it would refuse, or of
// which there is too little, or too much.
func TestUnfit(t *testing.T) {
	for _, c := range calls() {
		for _, x := range unfit() {
			for _, n := range numbers() {
				checkIs(t, c, x, n, api.Sku{}, api.ErrBad)
			}
			for i := range 5 {
				checkIs(t, c, x, *count(&x, i), api.Sku{}, api.ErrBad)
				checkIs(t, c, x, most-*count(&x, i), api.Sku{}, api.ErrBad)
			}
		}
	}
}

// TestExample is of the chapter's example.
func TestExample(t *testing.T) {
	x, err := stock.New("tea")
	if x != (api.Sku{Name: "tea"}) || err != api.OK {
		t.Fatalf("New is %v, %d", x, err)
	}
	x, err = stock.Restock(x, 5)
	if x != (api.Sku{Name: "tea", Hand: 5, In: 5}) || err != api.OK {
		t.Fatalf("Restock is %v, %d", x, err)
	}
	x, err = stock.Hold(x, 3)
	if x != (api.Sku{Name: "tea", Hand: 2, Held: 3, In: 5}) || err != api.OK {
		t.Fatalf("Hold is %v, %d", x, err)
	}
	x, err = stock.Hold(x, 3)
	if x != (api.Sku{}) || err != api.ErrStock {
		t.Fatalf("Hold once more is %v, %d", x, err)
	}
}
