package num_test

import (
	"math"
	"math/big"
	"slices"
	"strings"
	"testing"

	"drayman/api"
	"drayman/num"
)

// edges are numbers at which an answer may turn, and ordinary ones between.
var edges = []int{
	math.MinInt, math.MinInt + 1, -1<<62 - 1, -1 << 62, -1<<62 + 1, -1 << 41,
	-api.Most - 1, -api.Most, -api.Most + 1, -1 << 20, -1001, -10, -9, -1,
	0, 1, 2, 3, 9, 10, 11, 99, 1000, 1<<20 - 1, 1 << 20, 1<<20 + 1,
	api.Most/3 + 1, api.Most/2 - 1, api.Most / 2, api.Most/2 + 1,
	api.Most - 1, api.Most, api.Most + 1, 1 << 41,
	1<<62 - 1, 1 << 62, 1<<62 + 1, math.MaxInt - 1, math.MaxInt,
}

// The reference works with numbers that can't overflow.
var (
	most     = big.NewInt(api.Most)
	farthest = new(big.Int).Lsh(big.NewInt(1), 62)
)

func isAmount(n *big.Int) bool { return n.Sign() >= 0 && n.Cmp(most) <= 0 }

func bigs(l ...int) []*big.Int {
	var out []*big.Int
	for _, n := range l {
		out = append(out, big.NewInt(int64(n)))
	}
	return out
}

func allAmounts(l ...int) bool {
	for _, n := range bigs(l...) {
		if !isAmount(n) {
			return false
		}
	}
	return true
}

// settle is what a result is answered, after the arguments were found in range.
func settle(n *big.Int) (int, api.Errno) {
	if n.Sign() < 0 {
		return 0, api.ErrStock
	}
	if n.Cmp(most) > 0 {
		return 0, api.ErrOver
	}
	return int(n.Int64()), api.OK
}

func wantSum(l ...int) (int, api.Errno) {
	if !allAmounts(l...) {
		return 0, api.ErrRange
	}
	sum := new(big.Int)
	for _, n := range bigs(l...) {
		sum.Add(sum, n)
	}
	return settle(sum)
}

func wantLess(a, b int) (int, api.Errno) {
	if !allAmounts(a, b) {
		return 0, api.ErrRange
	}
	l := bigs(a, b)
	return settle(l[0].Sub(l[0], l[1]))
}

func wantShift(a, by int) (int, api.Errno) {
	l := bigs(a, by)
	if !isAmount(l[0]) || l[1].CmpAbs(most) > 0 {
		return 0, api.ErrRange
	}
	return settle(l[0].Add(l[0], l[1]))
}

func wantTimes(a, b int) (int, api.Errno) {
	if !allAmounts(a, b) {
		return 0, api.ErrRange
	}
	l := bigs(a, b)
	return settle(l[0].Mul(l[0], l[1]))
}

// TestFit is of P1.1.
func TestFit(t *testing.T) {
	for _, c := range []struct {
		n    int
		want bool
	}{
		{0, true}, {1, true}, {12, true}, {api.Most - 1, true}, {api.Most, true},
		{-1, false}, {api.Most + 1, false}, {-api.Most, false},
		{-1 << 62, false}, {1 << 62, false},
		{math.MinInt, false}, {math.MaxInt, false},
	} {
		if got := num.Fit(c.n); got != c.want {
			t.Errorf("Fit(%d) is %v", c.n, got)
		}
	}
	for _, n := range edges {
		if got := num.Fit(n); got != allAmounts(n) {
			t.Errorf("Fit(%d) is %v", n, got)
		}
	}
}

// answer is what a call of two numbers gives.
type answer struct {
	a, b int
	want int
	err  api.Errno
}

// checkPairs holds a call against answers that are written out, and against
// its reference for every pair of edges.
func checkPairs(t *testing.T, name string, call, reference func(a, b int) (int, api.Errno), l []answer) {
	t.Helper()
	for _, c := range l {
		if got, err := call(c.a, c.b); got != c.want || err != c.err {
			t.Errorf("%s(%d, %d) is %d, %d; want %d, %d", name, c.a, c.b, got, err, c.want, c.err)
		}
	}
	for _, a := range edges {
		for _, b := range edges {
			want, wantErr := reference(a, b)
			if got, err := call(a, b); got != want || err != wantErr {
				t.Errorf("%s(%d, %d) is %d, %d; want %d, %d", name, a, b, got, err, want, wantErr)
			}
		}
	}
}

// TestSum is of P1.1.
func TestSum(t *testing.T) {
	for _, c := range []struct {
		l    []int
		want int
		err  api.Errno
	}{
		{nil, 0, api.OK},
		{[]int{}, 0, api.OK},
		{[]int{0}, 0, api.OK},
		{[]int{7}, 7, api.OK},
		{[]int{2, 3}, 5, api.OK},
		{[]int{1, 2, 3, 4, 5}, 15, api.OK},
		{[]int{api.Most}, api.Most, api.OK},
		{[]int{0, api.Most, 0}, api.Most, api.OK},
		{[]int{api.Most - 1, 1}, api.Most, api.OK},
		{[]int{api.Most / 2, api.Most / 2}, api.Most, api.OK},
		{[]int{api.Most, 1}, 0, api.ErrOver},
		{[]int{1, api.Most}, 0, api.ErrOver},
		{[]int{api.Most, api.Most}, 0, api.ErrOver},
		{[]int{1, api.Most / 2, api.Most / 2}, 0, api.ErrOver},
		{[]int{-1}, 0, api.ErrRange},
		{[]int{api.Most + 1}, 0, api.ErrRange},
		{[]int{2, -1}, 0, api.ErrRange},
		{[]int{api.Most, -api.Most}, 0, api.ErrRange},
		{[]int{math.MaxInt, math.MinInt}, 0, api.ErrRange},
		// No amount comes first, though the sum is over before it is met.
		{[]int{api.Most, 1, -1}, 0, api.ErrRange},
		{[]int{api.Most, api.Most, api.Most + 1}, 0, api.ErrRange},
	} {
		if got, err := num.Sum(c.l...); got != c.want || err != c.err {
			t.Errorf("Sum(%d) is %d, %d; want %d, %d", c.l, got, err, c.want, c.err)
		}
	}
	for _, a := range edges {
		for _, b := range edges {
			for _, c := range []int{-1, 0, 1, api.Most / 2, api.Most, api.Most + 1} {
				want, wantErr := wantSum(a, b, c)
				if got, err := num.Sum(a, b, c); got != want || err != wantErr {
					t.Errorf("Sum(%d, %d, %d) is %d, %d; want %d, %d", a, b, c, got, err, want, wantErr)
				}
			}
		}
	}
}

// TestSumOfMany is of P1.1: so many amounts that an int of 64 bits would wrap
// round to less than 0, to 0 and to Most.
func TestSumOfMany(t *testing.T) {
	l := slices.Repeat([]int{api.Most}, 1<<24+1)
	for _, many := range []int{1 << 23, 1 << 24, 1<<24 + 1} {
		if got, err := num.Sum(l[:many]...); got != 0 || err != api.ErrOver {
			t.Errorf("Sum of %d times Most is %d, %d", many, got, err)
		}
	}
	ones := slices.Repeat([]int{1}, 1<<20)
	if got, err := num.Sum(ones...); got != 1<<20 || err != api.OK {
		t.Errorf("Sum of 1<<20 ones is %d, %d", got, err)
	}
}

// TestSumKeepsItsNumbers is of rule 0.5, in P1.1.
func TestSumKeepsItsNumbers(t *testing.T) {
	l := []int{4, 0, 9, 1}
	num.Sum(l...)
	if !slices.Equal(l, []int{4, 0, 9, 1}) {
		t.Errorf("Sum left %d", l)
	}
}

// TestLess is of P1.1.
func TestLess(t *testing.T) {
	checkPairs(t, "Less", num.Less, wantLess, []answer{
		{5, 3, 2, api.OK},
		{3, 3, 0, api.OK},
		{0, 0, 0, api.OK},
		{3, 0, 3, api.OK},
		{api.Most, 0, api.Most, api.OK},
		{api.Most, api.Most, 0, api.OK},
		{api.Most, 1, api.Most - 1, api.OK},
		{3, 5, 0, api.ErrStock},
		{0, 1, 0, api.ErrStock},
		{0, api.Most, 0, api.ErrStock},
		{-1, 0, 0, api.ErrRange},
		{0, -1, 0, api.ErrRange},
		{-1, -1, 0, api.ErrRange},
		{5, -3, 0, api.ErrRange},
		{api.Most + 1, 1, 0, api.ErrRange},
		// Out of range comes before not enough.
		{0, api.Most + 1, 0, api.ErrRange},
		{-2, 3, 0, api.ErrRange},
		{math.MinInt, math.MaxInt, 0, api.ErrRange},
	})
}

// TestShift is of P1.1.
func TestShift(t *testing.T) {
	checkPairs(t, "Shift", num.Shift, wantShift, []answer{
		{2, 3, 5, api.OK},
		{2, -2, 0, api.OK},
		{2, 0, 2, api.OK},
		{0, 0, 0, api.OK},
		{0, api.Most, api.Most, api.OK},
		{api.Most, -api.Most, 0, api.OK},
		{api.Most, 0, api.Most, api.OK},
		{api.Most - 1, 1, api.Most, api.OK},
		{2, -3, 0, api.ErrStock},
		{0, -1, 0, api.ErrStock},
		{0, -api.Most, 0, api.ErrStock},
		{api.Most - 1, -api.Most, 0, api.ErrStock},
		{api.Most, 1, 0, api.ErrOver},
		{1, api.Most, 0, api.ErrOver},
		{api.Most, api.Most, 0, api.ErrOver},
		{-1, 1, 0, api.ErrRange},
		{api.Most + 1, -1, 0, api.ErrRange},
		{0, api.Most + 1, 0, api.ErrRange},
		{api.Most, -api.Most - 1, 0, api.ErrRange},
		{0, -api.Most - 1, 0, api.ErrRange},
		{1, math.MinInt, 0, api.ErrRange},
		{1, math.MaxInt, 0, api.ErrRange},
		{math.MaxInt, math.MinInt, 0, api.ErrRange},
	})
}

// TestTimes is of P1.1.
func TestTimes(t *testing.T) {
	checkPairs(t, "Times", num.Times, wantTimes, []answer{
		{6, 7, 42, api.OK},
		{0, 0, 0, api.OK},
		{0, api.Most, 0, api.OK},
		{api.Most, 0, 0, api.OK},
		{1, api.Most, api.Most, api.OK},
		{api.Most, 1, api.Most, api.OK},
		{2, api.Most / 2, api.Most, api.OK},
		{1 << 20, 1 << 20, api.Most, api.OK},
		{3, api.Most / 3, api.Most - 1, api.OK},
		{3, api.Most/3 + 1, 0, api.ErrOver},
		{2, api.Most/2 + 1, 0, api.ErrOver},
		{1 << 20, 1<<20 + 1, 0, api.ErrOver},
		{2, api.Most, 0, api.ErrOver},
		// These wrap round to 0 and to less than 0 in an int of 64 bits.
		{1 << 32, 1 << 32, 0, api.ErrOver},
		{api.Most, api.Most, 0, api.ErrOver},
		{1 << 31, 1 << 32, 0, api.ErrOver},
		{-1, 0, 0, api.ErrRange},
		{0, -1, 0, api.ErrRange},
		{-2, -3, 0, api.ErrRange},
		{0, api.Most + 1, 0, api.ErrRange},
		{api.Most + 1, 0, 0, api.ErrRange},
		{api.Most, api.Most + 1, 0, api.ErrRange},
		{math.MinInt, -1, 0, api.ErrRange},
	})
}

// TestDigits is of P1.2.
func TestDigits(t *testing.T) {
	for _, c := range []struct {
		n    int
		want string
	}{
		{0, "0"}, {7, "7"}, {-7, "-7"}, {10, "10"}, {-12, "-12"}, {100, "100"},
		{1234567890, "1234567890"},
		{api.Most, "1099511627776"}, {-api.Most, "-1099511627776"},
		{1 << 62, "4611686018427387904"}, {-1 << 62, "-4611686018427387904"},
		{math.MaxInt, "9223372036854775807"}, {math.MinInt, "-9223372036854775808"},
	} {
		if got := num.Digits(c.n); got != c.want {
			t.Errorf("Digits(%d) is %q", c.n, got)
		}
	}
	for _, n := range edges {
		if got := num.Digits(n); got != bigs(n)[0].String() {
			t.Errorf("Digits(%d) is %q", n, got)
		}
	}
}

// checkNumber holds one answer of Number against what is wanted.
func checkNumber(t *testing.T, s string, want int, wantErr api.Errno) {
	t.Helper()
	if got, err := num.Number(s); got != want || err != wantErr {
		t.Errorf("Number(%.40q) is %d, %d; want %d, %d", s, got, err, want, wantErr)
	}
}

// TestNumber is of P1.2.
func TestNumber(t *testing.T) {
	for _, c := range []struct {
		s    string
		want int
	}{
		{"0", 0}, {"1", 1}, {"9", 9}, {"10", 10}, {"12", 12}, {"-1", -1}, {"-12", -12},
		{"100200", 100200}, {"1234567890", 1234567890}, {"-9876543210", -9876543210},
		{"1099511627776", api.Most}, {"-1099511627776", -api.Most},
		{"4611686018427387903", 1<<62 - 1}, {"-4611686018427387903", -1<<62 + 1},
		{"4611686018427387904", 1 << 62}, {"-4611686018427387904", -1 << 62},
	} {
		checkNumber(t, c.s, c.want, api.OK)
	}
}

// TestNumberOutOfRange is of P1.2.
func TestNumberOutOfRange(t *testing.T) {
	for _, s := range []string{
		"4611686018427387905", "-4611686018427387905",
		"4611686018427387910", "-4611686018427387910",
		"9223372036854775807", "9223372036854775808",
		"-9223372036854775808", "-9223372036854775809",
		// These wrap round to 0, to 1 and to 5 in an int of 64 bits.
		"18446744073709551616", "18446744073709551617", "-18446744073709551621",
		"10000000000000000000", "46116860184273879040",
		strings.Repeat("9", 1000), "-" + strings.Repeat("9", 1000),
		"1" + strings.Repeat("0", 1<<16),
	} {
		checkNumber(t, s, 0, api.ErrRange)
	}
}

// TestNumberOfOtherForm is of P1.2: texts that are no number's digits.
func TestNumberOfOtherForm(t *testing.T) {
	for _, s := range []string{
		"", "-", "--", "--1", "+", "+1", "+0", "-+1", "1-", "1-2", "-1-",
		"-0", "00", "-00", "01", "012", "-012", "000", "007",
		" ", " 1", "1 ", "1 2", "-1 ", "- 1", "\t1", "1\n", "1\x00", "\x00",
		"a", "1a", "a1", "0x1", "0b1", "0o7", "1_000", "1,000", "1.0", "1e3", ".5",
		"/", ":", "1/", "1:", "nan", "inf",
		"\u0661", "1\u0662", "\u00b2", "\uff11", "\u22121", "\u20131", "\u30071",
		"\xff", "1\xff", "\xff1", "-\xff", "\xb1", "1\xb1", "\xc0\xb1", "\ufffd", "1\ufffd",
		// No digits comes before out of range.
		strings.Repeat("9", 40) + "x", "x" + strings.Repeat("9", 40),
		"0" + strings.Repeat("9", 40), "-0" + strings.Repeat("9", 40),
		strings.Repeat("9", 40) + "-", strings.Repeat("9", 40) + "\xff",
		strings.Repeat("0", 1000),
	} {
		checkNumber(t, s, 0, api.ErrForm)
	}
}

// TestNumberOfEveryByte is of P1.2: of the bytes none but the ten digits may
// stand alone, before a digit (but for "-"), or behind one.
func TestNumberOfEveryByte(t *testing.T) {
	for b := range 256 {
		c := string([]byte{byte(b)})
		if b >= '0' && b <= '9' {
			checkNumber(t, c, b-'0', api.OK)
			checkNumber(t, "4"+c, 40+b-'0', api.OK)
			continue
		}
		checkNumber(t, c, 0, api.ErrForm)
		checkNumber(t, "4"+c, 0, api.ErrForm)
		checkNumber(t, "4"+c+"2", 0, api.ErrForm)
		if b != '-' {
			checkNumber(t, c+"4", 0, api.ErrForm)
		}
	}
}

// wantNumber is the reference of Number: of a text that is the digits of a
// number, digits of any length.
func wantNumber(n *big.Int) (int, api.Errno) {
	if n.CmpAbs(farthest) > 0 {
		return 0, api.ErrRange
	}
	return int(n.Int64()), api.OK
}

// TestNumberNearItsEnds is of P1.2: around both ends, and around the ends with
// a digit more and a digit less.
func TestNumberNearItsEnds(t *testing.T) {
	ten := big.NewInt(10)
	ends := []*big.Int{
		farthest,
		new(big.Int).Mul(farthest, ten),
		new(big.Int).Div(farthest, ten),
		new(big.Int).Lsh(big.NewInt(1), 63),
		new(big.Int).Lsh(big.NewInt(1), 64),
	}
	for _, end := range ends {
		for d := int64(-25); d <= 25; d++ {
			n := new(big.Int).Add(end, big.NewInt(d))
			for _, m := range []*big.Int{n, new(big.Int).Neg(n)} {
				want, wantErr := wantNumber(m)
				checkNumber(t, m.String(), want, wantErr)
			}
		}
	}
}

// TestShiftThereAndBack is of P1.3.
func TestShiftThereAndBack(t *testing.T) {
	moved := 0
	for _, a := range edges {
		for _, by := range edges {
			there, err := num.Shift(a, by)
			if err != api.OK {
				continue
			}
			moved++
			if back, err := num.Shift(there, -by); back != a || err != api.OK {
				t.Errorf("Shift(%d, %d) is %d, and back it is %d, %d", a, by, there, back, err)
			}
		}
	}
	// Each edge that is an amount can be shifted by 0 at least.
	if moved < 18 {
		t.Errorf("only %d shifts were answered", moved)
	}
}

// TestNumberOfDigits is of P1.4.
func TestNumberOfDigits(t *testing.T) {
	check := func(n int) {
		want, wantErr := wantNumber(bigs(n)[0])
		checkNumber(t, num.Digits(n), want, wantErr)
	}
	for _, n := range edges {
		check(n)
	}
	for n := -12345; n <= 12345; n++ {
		check(n)
	}
	// One number of each length, up to the ends of an int.
	for n := 1; n < math.MaxInt/7; n *= 7 {
		check(n)
		check(-n)
		check(n - 1)
		check(1 - n)
	}
}

// TestDigitsOfNumber is of P1.4: each short text is of another form, or is the
// very digits of the number that it is read as.
func TestDigitsOfNumber(t *testing.T) {
	read := 0
	var check func(s string, left int)
	check = func(s string, left int) {
		if n, err := num.Number(s); err == api.OK {
			read++
			if num.Digits(n) != s {
				t.Errorf("Number(%q) is %d, whose digits are %q", s, n, num.Digits(n))
			}
		} else if n != 0 || err != api.ErrForm {
			t.Errorf("Number(%q) is %d, %d", s, n, err)
		}
		if left == 0 {
			return
		}
		for _, c := range "-+0123456789 x" {
			check(s+string(c), left-1)
		}
	}
	check("", 4)
	// 0 to 9999, and -1 to -999.
	if read != 10000+999 {
		t.Errorf("%d texts were read as numbers", read)
	}
}
