package lines_test

import (
	"math"
	"math/big"
	"slices"
	"strings"
	"testing"

	"drayman/api"
	"drayman/lines"
	"drayman/wire"
)

// wantInt is the encoding of a number, as chapter 3 defines it.
func wantInt(n int) string {
	x := big.NewInt(int64(n))
	x.Lsh(x, 1)
	if n < 0 {
		x.Not(x)
	}
	return string(rune(len(x.Bytes()))) + string(x.Bytes())
}

// wantPut is the encoding of a list.
func wantPut(l []api.Line) string {
	s := wantInt(len(l))
	for _, x := range l {
		s += wantInt(len(x.Sku)) + x.Sku + wantInt(x.N)
	}
	return s
}

// cutInt reads a number from the beginning of s: the number, and what is behind.
func cutInt(s string) (n int, rest string, is bool) {
	if s == "" || s[0] > 8 || len(s) <= int(s[0]) || s[0] > 0 && s[1] == 0 {
		return 0, "", false
	}
	size := 1 + int(s[0])
	x := new(big.Int).SetBytes([]byte(s[1:size]))
	odd := x.Bit(0) == 1
	x.Rsh(x, 1)
	if odd {
		x.Not(x)
	}
	return int(x.Int64()), s[size:], true
}

// wantTake is the reference of Take: what is read from the beginning of s, and
// what is behind it.
func wantTake(s string) (l []api.Line, rest string, is bool) {
	many, s, is := cutInt(s)
	if !is || many < 0 || many > 4 || many > len(s) {
		return nil, "", false
	}
	for range many {
		var size, n int
		size, s, is = cutInt(s)
		if !is || size < 0 || size > 48 || size > len(s) {
			return nil, "", false
		}
		sku := s[:size]
		n, s, is = cutInt(s[size:])
		if !is {
			return nil, "", false
		}
		l = append(l, api.Line{Sku: sku, N: n})
	}
	return l, s, true
}

// checkPut holds an answer of Put against what is wanted.
func checkPut(t *testing.T, l []api.Line, want string) {
	t.Helper()
	if got := lines.Put(l); got != want {
		t.Errorf("Put is %.200x, want %.200x, of %s", got, want, short(l))
	}
}

// checkTake holds what Take answers of s against the reference: the list, and
// where the reader stands behind it. It reports whether there was a list.
func checkTake(t *testing.T, s string) bool {
	t.Helper()
	want, rest, is := wantTake(s)
	r := wire.New(s)
	got := lines.Take(r)
	if !slices.Equal(got, want) {
		t.Fatalf("Take of %.200x is %s, want %s", s, short(got), short(want))
	}
	if !is && got != nil {
		t.Fatalf("Take of %.200x is no nil list", s)
	}
	if r.Left() != len(rest) || r.Done() != (is && rest == "") {
		t.Fatalf("behind Take of %.200x there are %d bytes left, want %d; done is %t", s, r.Left(), len(rest), r.Done())
	}
	return is
}

// TestPut is of P11.2: encodings that are written out.
func TestPut(t *testing.T) {
	checkPut(t, nil, "\x00")
	checkPut(t, []api.Line{}, "\x00")
	checkPut(t, []api.Line{{}}, "\x01\x02\x00\x00")
	checkPut(t, []api.Line{{}, {}}, "\x01\x04\x00\x00\x00\x00")
	checkPut(t, of("tea 5"), "\x01\x02\x01\x06tea\x01\x0a")
	checkPut(t, of("salt 1, tea 5"), "\x01\x04\x01\x08salt\x01\x02\x01\x06tea\x01\x0a")
	checkPut(t, of("tea 5, salt 1"), "\x01\x04\x01\x06tea\x01\x0a\x01\x08salt\x01\x02")
	checkPut(t, of("tea 5, tea -1"), "\x01\x04\x01\x06tea\x01\x0a\x01\x06tea\x01\x01")
	checkPut(t, of("ä 1048576"), "\x01\x02\x01\x04\xc3\xa4\x03\x20\x00\x00")
	checkPut(t, of("Tea 0,  9223372036854775807, \xff -9223372036854775808"),
		"\x01\x06\x01\x06Tea\x00\x00\x08\xff\xff\xff\xff\xff\xff\xff\xfe\x01\x02\xff\x08\xff\xff\xff\xff\xff\xff\xff\xff")
	checkPut(t, of("a 1, b 1, c 1, d 1, e 1"), "\x01\x0a\x01\x02a\x01\x02\x01\x02b\x01\x02\x01\x02c\x01\x02\x01\x02d\x01\x02\x01\x02e\x01\x02")
}

// TestPutOfAny is of P11.2: lists that are fit, lists that are not, long lists,
// and long Skus.
func TestPutOfAny(t *testing.T) {
	for _, l := range slices.Concat(fits(), unfits()) {
		was := slices.Clone(l)
		checkPut(t, l, wantPut(l))
		if !slices.Equal(l, was) {
			t.Errorf("Put left %s of %s", short(l), short(was))
		}
	}
	for many := range 300 {
		checkPut(t, some(many), wantPut(some(many)))
	}
	for _, size := range []int{47, 48, 49, 63, 64, 127, 128, 1 << 15, 1 << 16} {
		l := []api.Line{{Sku: strings.Repeat("a", size), N: size}, {Sku: "b", N: 1}}
		checkPut(t, l, wantPut(l))
	}
	l := slices.Repeat(of("tea 5, salt -1"), 1<<16)
	checkPut(t, l, "\x03\x04\x00\x00"+strings.Repeat("\x01\x06tea\x01\x0a\x01\x08salt\x01\x01", 1<<16))
}

// TestTake is of P11.2: encodings that are written out.
func TestTake(t *testing.T) {
	for _, c := range []struct{ s, want string }{
		{"\x01\x02\x01\x06tea\x01\x0a", "tea 5"},
		{"\x01\x04\x01\x08salt\x01\x02\x01\x06tea\x01\x0a", "salt 1, tea 5"},
		{"\x01\x04\x01\x06tea\x01\x0a\x01\x06tea\x01\x01", "tea 5, tea -1"},
		{"\x01\x08\x00\x00\x00\x00\x00\x00\x00\x00", " 0,  0,  0,  0"},
		{"\x01\x02\x00\x08\xff\xff\xff\xff\xff\xff\xff\xff", " -9223372036854775808"},
	} {
		r := wire.New(c.s)
		if got := lines.Take(r); !slices.Equal(got, of(c.want)) || !r.Done() {
			t.Errorf("Take of %x is %s; done is %t", c.s, short(got), r.Done())
		}
	}
	r := wire.New("\x00")
	if got := lines.Take(r); got != nil || !r.Done() {
		t.Errorf("Take of no lines is %s; done is %t", short(got), r.Done())
	}
	r = wire.New("\x01\x0a\x01\x02a\x01\x02\x01\x02b\x01\x02\x01\x02c\x01\x02\x01\x02d\x01\x02\x01\x02e\x01\x02")
	if got := lines.Take(r); got != nil || r.Left() != 0 || r.Done() {
		t.Errorf("Take of five lines is %s; done is %t", short(got), r.Done())
	}
}

// TestTakeOfPut is of P11.3: lists of up to four lines are there again, fit or
// not, alone and with more behind them.
func TestTakeOfPut(t *testing.T) {
	for _, l := range slices.Concat(fits(), unfits()) {
		for _, more := range []string{"", "\x00", "\xff", "abc", "\x01\x04\x00\x00"} {
			r := wire.New(lines.Put(l) + more)
			if got := lines.Take(r); !slices.Equal(got, l) || r.Left() != len(more) || r.Done() != (more == "") {
				t.Errorf("Take of Put is %s, and %d bytes are left; of %s", short(got), r.Left(), short(l))
			}
		}
	}
}

// TestTakeOfPutAgain is of P11.2 and P11.3: several lists behind each other,
// and other things between them.
func TestTakeOfPutAgain(t *testing.T) {
	l := append(unfits(), fits()[:200]...)
	s := ""
	for i, x := range l {
		s += lines.Put(x) + wire.Int(i)
	}
	r := wire.New(s)
	for i, x := range l {
		if got := lines.Take(r); !slices.Equal(got, x) {
			t.Fatalf("Take of list %d is %s, want %s", i, short(got), short(x))
		}
		if got := r.Int(i, i); got != i {
			t.Fatalf("behind list %d there is %d", i, got)
		}
	}
	if !r.Done() {
		t.Errorf("%d bytes are left behind all lists", r.Left())
	}
	if got := lines.Take(r); got != nil || r.Done() {
		t.Errorf("Take behind all is %s", short(got))
	}
}

// TestTakeOfCut is of P11.2: encodings cut at each byte, from behind and from
// ahead, with more behind what is left.
func TestTakeOfCut(t *testing.T) {
	for _, l := range append(unfits(), fits()[:300]...) {
		s := lines.Put(l)
		for i := range s {
			r := wire.New(s[:i])
			if got := lines.Take(r); got != nil || r.Done() || r.Left() != 0 {
				t.Errorf("Take of %d bytes of %x is %s; done is %t", i, s, short(got), r.Done())
			}
			checkTake(t, s[i:])
			checkTake(t, s[:i]+"\x01\x02a\x01\x02")
		}
	}
}

// TestTakeOfLength is of P11.2: each number as the length of a list, and as the
// length of a Sku, with bytes enough and too few.
func TestTakeOfLength(t *testing.T) {
	for _, n := range append(badNs(), -3, -1, 0, 1, 2, 3, 4, 5, 6, 16, 47, 48, 49, 50, 64, 127, 128, 255, 256) {
		for _, left := range []int{0, 1, 2, 3, 4, 8, 10, 47, 48, 49, 50, 51, 300} {
			list := checkTake(t, wantInt(n)+strings.Repeat("\x00", left))
			if want := n >= 0 && n <= 4 && left >= 2*n; list != want {
				t.Errorf("a list of %d lines with %d bytes: %t", n, left, list)
			}
			sku := checkTake(t, wantInt(1)+wantInt(n)+strings.Repeat("\x00", left))
			if want := n >= 0 && n <= 48 && left > n; sku != want {
				t.Errorf("a Sku of %d bytes with %d bytes: %t", n, left, sku)
			}
		}
	}
	for many := range 40 {
		if got := checkTake(t, wantPut(some(many))); got != (many <= 4) {
			t.Errorf("a list of %d lines: %t", many, got)
		}
	}
}

// TestTakeOfLongSku is of P11.2: a Sku of 48 bytes and one more, as each of
// four lines.
func TestTakeOfLongSku(t *testing.T) {
	for at := range 4 {
		for _, c := range []struct {
			sku string
			is  bool
		}{
			{strings.Repeat("a", 48), true}, {strings.Repeat("ä", 24), true}, {strings.Repeat("𝔞", 12), true}, {strings.Repeat("\x00", 48), true},
			{strings.Repeat("a", 49), false}, {strings.Repeat("ä", 25), false}, {strings.Repeat("𝔞", 13), false}, {strings.Repeat("a", 1<<16), false},
		} {
			l := some(4)
			l[at].Sku = c.sku
			if got := checkTake(t, lines.Put(l)); got != c.is {
				t.Errorf("a Sku of %d bytes as line %d: %t", len(c.sku), at, got)
			}
		}
	}
}

// TestTakeOfChanged is of P11.2: encodings of which each byte is each other.
func TestTakeOfChanged(t *testing.T) {
	taken := 0
	for _, s := range []string{"salt 1, tea 5", "a 1, b 1048576, c -1, d 0", " 0", "ä 9223372036854775807, x -9223372036854775808"} {
		s = lines.Put(of(s))
		for i := range s {
			for b := range 256 {
				c := string([]byte{byte(b)})
				for _, changed := range []string{s[:i] + c + s[i+1:], s[:i] + c + s[i:], s[:i] + c + s[i+1:] + "\x00\x01\x02"} {
					if checkTake(t, changed) {
						taken++
					}
				}
			}
		}
	}
	if taken < 1000 {
		t.Errorf("only %d lists were taken", taken)
	}
}

// TestTakeOfShort is of P11.2 and P11.3: all short strings of some bytes; each
// that is a list to its end is the encoding of that list.
func TestTakeOfShort(t *testing.T) {
	taken := 0
	var check func(s string, left int)
	check = func(s string, left int) {
		if checkTake(t, s) {
			l, rest, _ := wantTake(s)
			checkPut(t, l, s[:len(s)-len(rest)])
			taken++
		}
		if left == 0 {
			return
		}
		for _, b := range []byte{0, 1, 2, 3, 4, 8, 10, 'a', 255} {
			check(s+string([]byte{b}), left-1)
		}
	}
	check("", 5)
	check("\x01\x02", 4)
	check("\x01\x04\x01\x02a\x01", 4)
	if taken < 1000 {
		t.Errorf("only %d lists were taken", taken)
	}
}

// TestTakeOfBad is of P11.2: readers that are bad, from the beginning or from
// earlier on, or by a Take.
func TestTakeOfBad(t *testing.T) {
	if got := lines.Take(nil); got != nil {
		t.Errorf("Take of a nil reader is %s", short(got))
	}
	zero := wire.Reader{}
	if got := lines.Take(&zero); got != nil {
		t.Errorf("Take of a zero reader is %s", short(got))
	}
	good := lines.Put(of("salt 1, tea 5"))
	for what, wrong := range map[string]func(r *wire.Reader){
		"Int":  func(r *wire.Reader) { r.Int(9, 9) },
		"Flag": func(r *wire.Reader) { r.Flag(); r.Flag() },
		"Text": func(r *wire.Reader) { r.Text(0) },
		"List": func(r *wire.Reader) { r.List(0) },
		"Take": func(r *wire.Reader) { r.Int(2, 2); lines.Take(r) },
	} {
		r := wire.New(good + good)
		wrong(r)
		for range 3 {
			if got := lines.Take(r); got != nil || r.Done() || r.Left() != 0 {
				t.Errorf("Take of a reader that went wrong by %s is %s", what, short(got))
			}
		}
	}
	r := wire.New("")
	if got := lines.Take(r); got != nil || r.Done() {
		t.Errorf("Take of nothing is %s; done is %t", short(got), r.Done())
	}
}

// TestTakeIsNew is of P11.2: two lists of the same reader share no memory.
func TestTakeIsNew(t *testing.T) {
	r := wire.New(strings.Repeat(lines.Put(of("a 1, b 2")), 2))
	first := lines.Take(r)
	second := lines.Take(r)
	first[0], first[1] = api.Line{Sku: "x", N: math.MaxInt}, api.Line{}
	if !slices.Equal(second, of("a 1, b 2")) {
		t.Errorf("the second list is %s", short(second))
	}
}
