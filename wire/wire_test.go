package wire_test

import (
	"math"
	"math/big"
	"slices"
	"strings"
	"testing"

	"drayman/wire"
)

// wantIndex is the index of a number: as many numbers are before it.
func wantIndex(n int) *big.Int {
	x := big.NewInt(int64(n))
	x.Lsh(x, 1)
	if n < 0 {
		x.Not(x)
	}
	return x
}

// wantInt is the encoding of a number.
func wantInt(n int) string {
	l := wantIndex(n).Bytes()
	return string(rune(len(l))) + string(l)
}

// wantText is the encoding of a string.
func wantText(s string) string { return wantInt(len(s)) + s }

// numbers are those at which the encoding becomes longer, or the number is at
// an end, with those around them.
func numbers() []int {
	l := []int{math.MinInt, math.MinInt + 1, math.MaxInt - 1, math.MaxInt}
	for shift := range 63 {
		for d := -2; d <= 2; d++ {
			l = append(l, 1<<shift+d, -1<<shift+d)
		}
	}
	slices.Sort(l)
	return slices.Compact(l)
}

// TestInt is of P3.1.
func TestInt(t *testing.T) {
	for _, c := range []struct {
		n    int
		want string
	}{
		{0, "\x00"}, {-1, "\x01\x01"}, {1, "\x01\x02"}, {-2, "\x01\x03"}, {2, "\x01\x04"},
		{127, "\x01\xfe"}, {-128, "\x01\xff"}, {128, "\x02\x01\x00"}, {-129, "\x02\x01\x01"},
		{32767, "\x02\xff\xfe"}, {-32768, "\x02\xff\xff"}, {32768, "\x03\x01\x00\x00"},
		{1 << 40, "\x06\x02\x00\x00\x00\x00\x00"}, {-1 << 40, "\x06\x01\xff\xff\xff\xff\xff"},
		{1<<55 - 1, "\x07\xff\xff\xff\xff\xff\xff\xfe"}, {-1 << 55, "\x07\xff\xff\xff\xff\xff\xff\xff"},
		{1 << 55, "\x08\x01\x00\x00\x00\x00\x00\x00\x00"},
		{1 << 62, "\x08\x80\x00\x00\x00\x00\x00\x00\x00"},
		{-1 << 62, "\x08\x7f\xff\xff\xff\xff\xff\xff\xff"},
		{math.MaxInt, "\x08\xff\xff\xff\xff\xff\xff\xff\xfe"},
		{math.MinInt, "\x08\xff\xff\xff\xff\xff\xff\xff\xff"},
	} {
		if got := wire.Int(c.n); got != c.want {
			t.Errorf("Int(%d) is %x, want %x", c.n, got, c.want)
		}
	}
}

// TestIntOfEach is of P3.1: for each number of up to two bytes and some more,
// in the sequence of the indices, and around each power of two.
func TestIntOfEach(t *testing.T) {
	n := 0
	for index := range 1 << 18 {
		want := big.NewInt(int64(index)).Bytes()
		if got := wire.Int(n); got != string(rune(len(want)))+string(want) {
			t.Fatalf("Int(%d) is %x, of the index %d", n, got, index)
		}
		if n < 0 {
			n = -n
		} else {
			n = -n - 1
		}
	}
	for _, n := range numbers() {
		if got := wire.Int(n); got != wantInt(n) {
			t.Errorf("Int(%d) is %x, want %x", n, got, wantInt(n))
		}
	}
}

// TestFlag is of P3.1.
func TestFlag(t *testing.T) {
	if got := wire.Flag(true); got != "\x01" {
		t.Errorf("Flag(true) is %x", got)
	}
	if got := wire.Flag(false); got != "\x00" {
		t.Errorf("Flag(false) is %x", got)
	}
}

// TestText is of P3.1.
func TestText(t *testing.T) {
	for _, c := range []struct{ s, want string }{
		{"", "\x00"}, {"ab", "\x01\x04ab"}, {"\x00", "\x01\x02\x00"}, {"ä", "\x01\x04ä"},
		{"\xff\xfe\x80", "\x01\x06\xff\xfe\x80"}, {"\x01\x04ab", "\x01\x08\x01\x04ab"},
		{strings.Repeat("a", 127), "\x01\xfe" + strings.Repeat("a", 127)},
		{strings.Repeat("a", 128), "\x02\x01\x00" + strings.Repeat("a", 128)},
		{strings.Repeat("ä", 64), "\x02\x01\x00" + strings.Repeat("ä", 64)},
		{strings.Repeat("a", 32768), "\x03\x01\x00\x00" + strings.Repeat("a", 32768)},
	} {
		if got := wire.Text(c.s); got != c.want {
			t.Errorf("Text(%.40q) is %.40q, want %.40q", c.s, got, c.want)
		}
	}
}

// TestInts is of P3.1.
func TestInts(t *testing.T) {
	for _, c := range []struct {
		l    []int
		want string
	}{
		{nil, ""}, {[]int{}, ""}, {[]int{0}, "\x00"}, {[]int{-1}, "\x01\x01"},
		{[]int{0, 0, 0}, "\x00\x00\x00"}, {[]int{1, -1, 128, 0}, "\x01\x02\x01\x01\x02\x01\x00\x00"},
		{[]int{math.MaxInt, 0, math.MinInt}, "\x08\xff\xff\xff\xff\xff\xff\xff\xfe\x00\x08\xff\xff\xff\xff\xff\xff\xff\xff"},
	} {
		if got := wire.Ints(c.l...); got != c.want {
			t.Errorf("Ints(%d) is %x, want %x", c.l, got, c.want)
		}
	}
	want := ""
	for _, n := range numbers() {
		want += wantInt(n)
	}
	if got := wire.Ints(numbers()...); got != want {
		t.Errorf("Ints of %d numbers is %x, want %x", len(numbers()), got, want)
	}
}

// TestIntsKeepsItsList is of rule 0.5, in P3.1.
func TestIntsKeepsItsList(t *testing.T) {
	l := []int{3, -1, 2}
	wire.Ints(l...)
	if !slices.Equal(l, []int{3, -1, 2}) {
		t.Errorf("Ints left %d", l)
	}
}

// checkAt holds what Left and Done answer against what is wanted, twice, since
// they do not advance.
func checkAt(t *testing.T, r *wire.Reader, left int, done bool) {
	t.Helper()
	for range 2 {
		if got := r.Left(); got != left {
			t.Errorf("Left() is %d, want %d", got, left)
		}
		if got := r.Done(); got != done {
			t.Errorf("Done() is %v, want %v", got, done)
		}
	}
}

// checkBad checks that a reader is bad, and remains so.
func checkBad(t *testing.T, r *wire.Reader) {
	t.Helper()
	for range 2 {
		checkAt(t, r, 0, false)
		if n := r.Int(math.MinInt, math.MaxInt); n != 0 {
			t.Errorf("Int of a bad reader is %d", n)
		}
		checkAt(t, r, 0, false)
		if r.Flag() {
			t.Error("Flag of a bad reader is true")
		}
		checkAt(t, r, 0, false)
		if s := r.Text(math.MaxInt); s != "" {
			t.Errorf("Text of a bad reader is %q", s)
		}
		checkAt(t, r, 0, false)
		if n := r.List(math.MaxInt); n != 0 {
			t.Errorf("List of a bad reader is %d", n)
		}
	}
	checkAt(t, r, 0, false)
}

// TestExample is of P3.2: the chapter's example, and what is left at each step.
func TestExample(t *testing.T) {
	r := wire.New("\x01\x01\x01\x01\x04ab")
	checkAt(t, r, 7, false)
	if n := r.Int(-5, 5); n != -1 {
		t.Errorf("Int(-5, 5) is %d", n)
	}
	checkAt(t, r, 5, false)
	if !r.Flag() {
		t.Error("Flag() is false")
	}
	checkAt(t, r, 4, false)
	if s := r.Text(9); s != "ab" {
		t.Errorf("Text(9) is %q", s)
	}
	checkAt(t, r, 0, true)
	if n := r.Int(0, 1); n != 0 {
		t.Errorf("Int(0, 1) is %d", n)
	}
	checkBad(t, r)
}

// TestNew is of P3.2.
func TestNew(t *testing.T) {
	checkAt(t, wire.New(""), 0, true)
	checkAt(t, wire.New("\x00"), 1, false)
	checkAt(t, wire.New("\xff\xff"), 2, false)
	checkAt(t, wire.New(strings.Repeat("a", 1000)), 1000, false)
	// Two readers of one string are apart.
	s := "\x01\x02\x01\x04"
	a, b := wire.New(s), wire.New(s)
	if n := a.Int(0, 9); n != 1 {
		t.Errorf("Int(0, 9) is %d", n)
	}
	checkAt(t, a, 2, false)
	checkAt(t, b, 4, false)
	b.Flag()
	b.Flag()
	checkBad(t, b)
	if n := a.Int(0, 9); n != 2 {
		t.Errorf("Int(0, 9) is %d", n)
	}
	checkAt(t, a, 0, true)
}

// TestOtherReaders is of P3.2: a nil Reader, and one that New did not return.
func TestOtherReaders(t *testing.T) {
	checkBad(t, nil)
	checkBad(t, &wire.Reader{})
	checkBad(t, new(wire.Reader))
	var r wire.Reader
	checkBad(t, &r)
}

// checkInt holds one answer of Int at the beginning of s against what is
// wanted, with how many bytes are left; -1 if the reader becomes bad.
func checkInt(t *testing.T, s string, low, high, want, left int) {
	t.Helper()
	r := wire.New(s)
	if got := r.Int(low, high); got != want {
		t.Errorf("Int(%d, %d) of %x is %d, want %d", low, high, s, got, want)
	}
	checkAfter(t, r, left)
}

// checkAfter holds what a reader answers after a call against what is wanted.
func checkAfter(t *testing.T, r *wire.Reader, left int) {
	t.Helper()
	if left < 0 {
		checkBad(t, r)
		return
	}
	checkAt(t, r, left, left == 0)
}

// TestReadInt is of P3.2: the bounds, on both sides.
func TestReadInt(t *testing.T) {
	for _, n := range numbers() {
		s := wantInt(n)
		for _, rest := range []string{"", "\x00", "abc", s} {
			checkInt(t, s+rest, math.MinInt, math.MaxInt, n, len(rest))
			checkInt(t, s+rest, n, n, n, len(rest))
		}
		checkInt(t, s, math.MinInt, n, n, 0)
		checkInt(t, s, n, math.MaxInt, n, 0)
		if n > math.MinInt {
			checkInt(t, s, math.MinInt, n-1, 0, -1)
			checkInt(t, s, n, n-1, 0, -1)
		}
		if n < math.MaxInt {
			checkInt(t, s, n+1, math.MaxInt, 0, -1)
			checkInt(t, s, n+1, n, 0, -1)
		}
		checkInt(t, s, math.MaxInt, math.MinInt, 0, -1)
	}
}

// TestReadIntOfOtherForm is of P3.2: cut short, with leading zero bytes, too
// many bytes.
func TestReadIntOfOtherForm(t *testing.T) {
	for _, n := range numbers() {
		s := wantInt(n)
		for cut := range len(s) {
			checkInt(t, s[:cut], math.MinInt, math.MaxInt, 0, -1)
		}
		for zeros := 1; zeros < 9; zeros++ {
			size := string(rune(len(s) - 1 + zeros))
			checkInt(t, size+strings.Repeat("\x00", zeros)+s[1:], math.MinInt, math.MaxInt, 0, -1)
		}
	}
	for size := 9; size < 256; size++ {
		for _, c := range []string{"\x00", "\x01", "\xff"} {
			for _, count := range []int{7, 8, size - 1, size, 300} {
				s := string([]byte{byte(size)}) + strings.Repeat(c, count)
				checkInt(t, s, math.MinInt, math.MaxInt, 0, -1)
			}
		}
	}
	for size := 1; size <= 8; size++ {
		head := string(rune(size))
		checkInt(t, head+strings.Repeat("\x00", size), math.MinInt, math.MaxInt, 0, -1)
		checkInt(t, head+"\x00"+strings.Repeat("\xff", size-1), math.MinInt, math.MaxInt, 0, -1)
	}
}

// TestReadFlag is of P3.2, for each byte, and for none.
func TestReadFlag(t *testing.T) {
	for b := range 256 {
		for _, rest := range []string{"", "\x00", "\x01", "abc"} {
			r := wire.New(string([]byte{byte(b)}) + rest)
			if got := r.Flag(); got != (b == 1) {
				t.Errorf("Flag() of %x is %v", b, got)
			}
			if b > 1 {
				checkBad(t, r)
			} else {
				checkAt(t, r, len(rest), rest == "")
			}
		}
	}
	r := wire.New("")
	if r.Flag() {
		t.Error("Flag() of no bytes is true")
	}
	checkBad(t, r)
}

// checkText holds one answer of Text against what is wanted.
func checkText(t *testing.T, s string, most int, want string, left int) {
	t.Helper()
	r := wire.New(s)
	if got := r.Text(most); got != want {
		t.Errorf("Text(%d) of %.40q is %.40q, want %.40q", most, s, got, want)
	}
	checkAfter(t, r, left)
}

// TestReadText is of P3.2.
func TestReadText(t *testing.T) {
	for _, s := range []string{
		"", "a", "ab", "\x00", "\x00\x00", "ä", "\xff\xfe", "\x01\x02",
		strings.Repeat("a", 127), strings.Repeat("b", 128), strings.Repeat("\x00", 40000),
	} {
		code := wantText(s)
		for _, rest := range []string{"", "\x00", "ab"} {
			checkText(t, code+rest, len(s), s, len(rest))
			checkText(t, code+rest, len(s)+1, s, len(rest))
			checkText(t, code+rest, math.MaxInt, s, len(rest))
			checkText(t, code+rest, len(s)-1, "", -1)
			checkText(t, code+rest, -1, "", -1)
			checkText(t, code+rest, math.MinInt, "", -1)
		}
		for cut := 0; cut < len(code); cut += 1 + cut/20 {
			checkText(t, code[:cut], math.MaxInt, "", -1)
		}
	}
}

// TestReadTextOfOtherForm is of P3.2: lengths that no string has, and lengths
// of another form.
func TestReadTextOfOtherForm(t *testing.T) {
	for _, n := range numbers() {
		if n < 0 || n > 9 {
			checkText(t, wantInt(n)+"abcdefghi", math.MaxInt, "", -1)
			checkText(t, wantInt(n), math.MaxInt, "", -1)
			checkText(t, wantInt(n)+"abcdefghi", math.MinInt, "", -1)
			checkText(t, wantInt(n)+"abcdefghi", n, "", -1)
		}
	}
	for _, s := range []string{"\x02\x00\x04ab", "\x01\x00", "\x01\x00ab", "\x09ab", "\x03\x00\x00\x02a", "\x08\x00\x00\x00\x00\x00\x00\x00\x02a"} {
		checkText(t, s, math.MaxInt, "", -1)
	}
}

// checkList holds one answer of List against what is wanted.
func checkList(t *testing.T, s string, most int, want, left int) {
	t.Helper()
	r := wire.New(s)
	if got := r.List(most); got != want {
		t.Errorf("List(%d) of %.40q is %d, want %d", most, s, got, want)
	}
	checkAfter(t, r, left)
}

// TestReadList is of P3.2: a number that is not greater than the number of
// bytes behind it.
func TestReadList(t *testing.T) {
	for _, n := range []int{0, 1, 2, 3, 127, 128, 129, 32767, 32768, 40000} {
		for more := range 3 {
			s := wantInt(n) + strings.Repeat("\xff", n+more)
			checkList(t, s, n, n, n+more)
			checkList(t, s, n+1, n, n+more)
			checkList(t, s, math.MaxInt, n, n+more)
			checkList(t, s, n-1, 0, -1)
			checkList(t, s, -1, 0, -1)
			checkList(t, s, math.MinInt, 0, -1)
		}
		if n > 0 {
			checkList(t, wantInt(n)+strings.Repeat("\x00", n-1), math.MaxInt, 0, -1)
			checkList(t, wantInt(n), math.MaxInt, 0, -1)
		}
	}
	for _, n := range numbers() {
		if n < 0 || n > 9 {
			checkList(t, wantInt(n)+"abcdefghi", math.MaxInt, 0, -1)
			checkList(t, wantInt(n)+"abcdefghi", n, 0, -1)
		}
	}
	for _, s := range []string{"", "\x01", "\x01\x00", "\x02\x00\x04abcd", "\x02\x02", "\x09abcdefghi", "\xff"} {
		checkList(t, s, math.MaxInt, 0, -1)
	}
}

// TestRemainsBad is of P3.2: each of the four methods makes a reader bad, and
// what stands behind is not read any more.
func TestRemainsBad(t *testing.T) {
	for _, spoil := range []func(r *wire.Reader){
		func(r *wire.Reader) { r.Int(1, 1) },
		func(r *wire.Reader) { r.Int(0, -1) },
		func(r *wire.Reader) { r.Text(0) },
		func(r *wire.Reader) { r.List(0) },
		func(r *wire.Reader) { r.Int(2, 2); r.Flag(); r.Flag() },
		func(r *wire.Reader) { r.Int(2, 2); r.Int(0, 0) },
	} {
		r := wire.New("\x01\x04\x01\x04\x01\x04\x00\x00")
		spoil(r)
		checkBad(t, r)
	}
}

// sweep calls f with each text of up to three bytes, the first a size or
// another byte, the others at the ends of what a byte may be, and each with
// some bytes behind it.
func sweep(f func(s string)) {
	some := []byte{0, 1, 2, 3, 4, 5, 6, 8, 9, 0x7f, 0x80, 0xfe, 0xff}
	l, longest := []string{""}, []string{""}
	for range 3 {
		var longer []string
		for _, s := range longest {
			for _, b := range some {
				longer = append(longer, s+string([]byte{b}))
			}
		}
		l, longest = append(l, longer...), longer
	}
	for _, s := range l {
		for _, rest := range []string{"", "\x01", "abcde", "\x00\x00\x00\x00\x00\x00\x00\x00\x00"} {
			f(s + rest)
		}
	}
}

// wantRead finds the number whose encoding s begins with, by its bytes and not
// by decoding them: the size tells how many bytes there are, and a number that
// is encoded to them is the only one.
func wantRead(s string) (n, size int, is bool) {
	if s == "" || s[0] > 8 || len(s) < 1+int(s[0]) {
		return 0, 0, false
	}
	size = 1 + int(s[0])
	x := new(big.Int).SetBytes([]byte(s[1:size]))
	half := int(new(big.Int).Rsh(x, 1).Int64())
	if x.Bit(0) == 1 {
		half = -half - 1
	}
	if wantInt(half) != s[:size] {
		return 0, 0, false
	}
	return half, size, true
}

// TestReadEach is of P3.2: many texts, each with many bounds.
func TestReadEach(t *testing.T) {
	bounds := []int{math.MinInt, -2, -1, 0, 1, 2, 127, math.MaxInt}
	sweep(func(s string) {
		n, size, is := wantRead(s)
		for _, high := range bounds {
			for _, low := range []int{math.MinInt, -1, 0, high} {
				if is && low <= n && n <= high {
					checkInt(t, s, low, high, n, len(s)-size)
				} else {
					checkInt(t, s, low, high, 0, -1)
				}
			}
			if is && 0 <= n && n <= high && n <= len(s)-size {
				checkText(t, s, high, s[size:size+n], len(s)-size-n)
				checkList(t, s, high, n, len(s)-size)
			} else {
				checkText(t, s, high, "", -1)
				checkList(t, s, high, 0, -1)
			}
		}
	})
}

// TestBack is of P3.3: what was encoded is decoded again.
func TestBack(t *testing.T) {
	for n := -70000; n <= 70000; n++ {
		checkInt(t, wire.Int(n), math.MinInt, math.MaxInt, n, 0)
	}
	all := wire.New(wire.Ints(numbers()...))
	for _, n := range numbers() {
		checkInt(t, wire.Int(n), math.MinInt, math.MaxInt, n, 0)
		if got := all.Int(math.MinInt, math.MaxInt); got != n {
			t.Errorf("Int of what Ints joined is %d, want %d", got, n)
		}
	}
	checkAt(t, all, 0, true)
	for _, b := range []bool{false, true} {
		r := wire.New(wire.Flag(b))
		if got := r.Flag(); got != b {
			t.Errorf("Flag of what Flag(%v) returned is %v", b, got)
		}
		checkAt(t, r, 0, true)
	}
	for n := range 600 {
		s := strings.Repeat("\xe4", n)
		checkText(t, wire.Text(s), n, s, 0)
	}
}

// TestNoOther is of P3.3: bytes that are decoded are those that the number, the
// flag or the string is encoded to.
func TestNoOther(t *testing.T) {
	numbers, flags, texts := 0, 0, 0
	sweep(func(s string) {
		r := wire.New(s)
		if n := r.Int(math.MinInt, math.MaxInt); r.Left() > 0 || r.Done() {
			numbers++
			if got := s[:len(s)-r.Left()]; got != wire.Int(n) {
				t.Errorf("%x is decoded to %d, which is encoded to %x", got, n, wire.Int(n))
			}
		}
		r = wire.New(s)
		if b := r.Flag(); r.Left() > 0 || r.Done() {
			flags++
			if got := s[:len(s)-r.Left()]; got != wire.Flag(b) {
				t.Errorf("%x is decoded to %v, which is encoded to %x", got, b, wire.Flag(b))
			}
		}
		r = wire.New(s)
		if text := r.Text(math.MaxInt); r.Left() > 0 || r.Done() {
			texts++
			if got := s[:len(s)-r.Left()]; got != wire.Text(text) {
				t.Errorf("%x is decoded to %q, which is encoded to %x", got, text, wire.Text(text))
			}
		}
	})
	if numbers == 0 || flags == 0 || texts == 0 {
		t.Errorf("%d numbers, %d flags and %d texts were decoded", numbers, flags, texts)
	}
}
