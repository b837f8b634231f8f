package name_test

import (
	"cmp"
	"math"
	"slices"
	"strings"
	"testing"
	"unicode/utf8"

	"drayman/api"
	"drayman/name"
)

// The runes of names, written out: uppers and lowers go together one by one,
// and plain ones have no uppercase letter.
const (
	uppers = "ABCDEFGHIJKLMNOPQRSTUVWXYZÀÁÂÃÄÅÆÇÈÉÊËÌÍÎÏÐÑÒÓÔÕÖØÙÚÛÜÝÞ"
	lowers = "abcdefghijklmnopqrstuvwxyzàáâãäåæçèéêëìíîïðñòóôõöøùúûüýþ"
	plain  = "0123456789-ßÿ"
)

// last is the last rune that there is.
const last = 0x10ffff

// foldings has each rune that a name may be folded from, with what it becomes.
func foldings() map[rune]rune {
	small := []rune(lowers)
	m := map[rune]rune{}
	for i, r := range []rune(uppers) {
		m[r] = small[i]
	}
	for _, r := range lowers + plain {
		m[r] = r
	}
	return m
}

// nameRunes are the runes that are their own foldings.
func nameRunes() map[rune]bool {
	m := map[rune]bool{}
	for _, r := range lowers + plain {
		m[r] = true
	}
	return m
}

// invalid are texts that are not valid UTF-8, with shortest encodings, up to
// 10ffff, without d800 to dfff.
var invalid = []string{
	"\xff", "\xfe", "\x80", "\xbf", "\xc0", "\xc1", "\xf5", "\xf8", "\xfc",
	// One that ends too early, of each length.
	"\xc3", "\xe2", "\xe2\x82", "\xf0", "\xf0\x9f", "\xf0\x9f\x98",
	"\xef\xbf", "\xef",
	// Longer than the shortest: NUL, "/", "-", "a", "ä", 7ff, ffff.
	"\xc0\x80", "\xc0\xaf", "\xc0\xad", "\xc1\xa1", "\xe0\x80\x80",
	"\xe0\x83\xa4", "\xe0\x9f\xbf", "\xf0\x80\x80\xa1", "\xf0\x8f\xbf\xbf",
	// The ends of d800 to dfff, and a pair of them.
	"\xed\xa0\x80", "\xed\xad\xbf", "\xed\xae\x80", "\xed\xbf\xbf",
	"\xed\xa0\xbd\xed\xb8\x80",
	// 110000 and beyond, of four, five and six bytes.
	"\xf4\x90\x80\x80", "\xf7\xbf\xbf\xbf", "\xf8\x88\x80\x80\x80",
	"\xfc\x84\x80\x80\x80\x80",
	// Letters as one byte each.
	"\xe4", "\xdf", "\xc4", "\xe4b", "\xf7",
	// A rune's bytes the wrong way round, and one that belongs to none.
	"\xa4\xc3", "\xc3\xa4\xa4", "\xc3\xc3\xa4",
}

// strange are runes that no name has, many of them beside or between those
// that it may have, or of the same letter.
var strange = []rune{
	0, '\t', '\n', ' ', '!', ',', '.', '_', '/', ':', ';', '@', '[', '\\', '`',
	'{', '|', '~', 0x7f, 0x80, 0xa0, 0xaa, 0xb5, 0xba, 0xbf, '×', '÷',
	0x100, 0x101, 0x130, 0x131, 0x178, 0x17f, 0x1e9e, 0x212a, 0x212b, 0x300, 0x308,
	0x2010, 0x2011, 0x2013, 0x2212, 0x0661, 0x430, 0x3b1, 0xd7ff, 0xe000, 0xfeff,
	0xff0d, 0xff11, 0xff41, 0xfffc, 0xfffd, 0xfffe, 0xffff, 0x10000, 0x1f600, last,
}

// TestRune is of P2.1.
func TestRune(t *testing.T) {
	for _, r := range "az09-ßàöøÿamäé5" {
		if !name.Rune(r) {
			t.Errorf("Rune(%q) is false", r)
		}
	}
	for _, r := range []rune{
		'-' - 1, '-' + 1, '0' - 1, '9' + 1, 'a' - 1, 'z' + 1, 0xde, 0x100, 0xf7,
		'A', 'Z', 'Ä', 'À', 'Þ', '×', ' ', '_', 0, -1, -'a', -0x80, -0xdf, 0xffff + 'a',
		0x10000 + 'a', 0x100 + 'a', utf8.RuneError, 0xd800, 0xdfff, last, last + 1,
		math.MinInt32, math.MaxInt32,
	} {
		if name.Rune(r) {
			t.Errorf("Rune(%x) is true", r)
		}
	}
}

// TestEachRune is of P2.1, for each rune that there is and some beyond.
func TestEachRune(t *testing.T) {
	want := nameRunes()
	if len(want) != 26+10+1+32 {
		t.Fatalf("%d name runes are written out", len(want))
	}
	for r := rune(-0x1000); r <= last+0x1000; r++ {
		if got := name.Rune(r); got != want[r] {
			t.Errorf("Rune(%x) is %v", r, got)
		}
	}
}

// TestCount is of P2.1.
func TestCount(t *testing.T) {
	for _, c := range []struct {
		s    string
		want int
	}{
		{"", 0}, {"a", 1}, {"ab", 2}, {"äb", 2}, {"ä", 1}, {"-a", 2}, {"\x00", 1},
		{"Ä×÷", 3}, {"€", 1}, {"a€b", 3}, {"😀", 1}, {"a😀", 2}, {"a\u0308", 2},
		{"\x7f", 1}, {"\u0080", 1}, {"\u07ff", 1}, {"\u0800", 1},
		{"\ud7ff\ue000", 2}, {"\uffff\U00010000", 2}, {"\U0010ffff", 1},
		// The rune that is read where UTF-8 is not valid may itself be there.
		{"\ufffd", 1}, {"\ufffd\ufffd", 2}, {"a\ufffdb", 3},
		// No limit of names is one of runes.
		{strings.Repeat("a", 1000), 1000}, {strings.Repeat("ä", 1<<20), 1 << 20},
	} {
		if got := name.Count(c.s); got != c.want {
			t.Errorf("Count(%.40q) is %d, want %d", c.s, got, c.want)
		}
	}
}

// TestCountInvalid is of P2.1: what is not valid may stand anywhere, and beside
// a rune that stands for it elsewhere.
func TestCountInvalid(t *testing.T) {
	for _, s := range invalid {
		for _, before := range []string{"", "a", "ä", "\ufffd", strings.Repeat("b", 20)} {
			for _, after := range []string{"", "a", "ä", "\ufffd", strings.Repeat("b", 20)} {
				if got := name.Count(before + s + after); got != -1 {
					t.Errorf("Count(%q) is %d", before+s+after, got)
				}
			}
		}
	}
}

// checkCount holds Count against the library, of the same bounds.
func checkCount(t *testing.T, l ...byte) {
	t.Helper()
	want := -1
	if utf8.Valid(l) {
		want = utf8.RuneCount(l)
	}
	if got := name.Count(string(l)); got != want {
		t.Errorf("Count(%q) is %d, want %d", l, got, want)
	}
}

// TestCountOfBytes is of P2.1: each one and two bytes, and longer texts of the
// bytes at which UTF-8 turns.
func TestCountOfBytes(t *testing.T) {
	for a := range 256 {
		checkCount(t, byte(a))
		for b := range 256 {
			checkCount(t, byte(a), byte(b))
		}
	}
	turns := []byte{
		0, 'a', 0x7f, 0x80, 0x8f, 0x90, 0x9f, 0xa0, 0xbd, 0xbf, 0xc0, 0xc1, 0xc2, 0xdf,
		0xe0, 0xe1, 0xec, 0xed, 0xee, 0xef, 0xf0, 0xf1, 0xf3, 0xf4, 0xf5, 0xf7, 0xf8, 0xff,
	}
	for _, a := range turns {
		for _, b := range turns {
			for _, c := range turns {
				checkCount(t, a, b, c)
				for _, d := range turns {
					checkCount(t, a, b, c, d)
				}
			}
		}
	}
}

// TestCountOfEachRune is of P2.1.
func TestCountOfEachRune(t *testing.T) {
	for r := rune(0); r <= last; r++ {
		if r >= 0xd800 && r <= 0xdfff {
			continue
		}
		if got := name.Count(string(r)); got != 1 {
			t.Errorf("Count of %x is %d", r, got)
		}
	}
}

// TestFit is of P2.1.
func TestFit(t *testing.T) {
	for _, s := range []string{
		"a", "äb", "0", "9", "z", "ß", "ÿ", "à", "ø", "ö", "tea", "salt", "x-y", "a-", "a--",
		"0-0", "ß-", "007", "1", "abcdefghijkl", "a-----------", "ääääääääääää", "ÿÿÿÿÿÿÿÿÿÿÿÿ",
		"a0-ßàöøÿz9-5",
	} {
		if !name.Fit(s) {
			t.Errorf("Fit(%q) is false", s)
		}
	}
	for _, s := range []string{
		"", "-", "-a", "--", "-0", "-ä", "-abcdefghijk", "abcdefghijklm", "äääääääääääää",
		"a------------", "0000000000000", "-abcdefghijkl",
		"A", "Tea", "teA", "Ä", "äB", "Þ", "a b", " a", "a ", "a_b", "a.b", "a÷b", "÷", "a×b",
		"a\x00", "\x00", "a\u0308", "œ", "ā", "a\n",
		strings.Repeat("a", 1000), strings.Repeat("-", 1000), strings.Repeat("ä", 1<<20),
	} {
		if name.Fit(s) {
			t.Errorf("Fit(%.40q) is true", s)
		}
	}
}

// TestFitOfLengths is of P2.1: runes and not bytes are counted, of one byte
// or of two.
func TestFitOfLengths(t *testing.T) {
	for n := range 40 {
		want := n >= 1 && n <= 12
		for _, s := range []string{
			strings.Repeat("q", n), strings.Repeat("ß", n),
			strings.Repeat("ÿa", n/2) + strings.Repeat("ÿ", n%2),
		} {
			if got := name.Fit(s); got != want {
				t.Errorf("Fit(%q), %d runes, is %v", s, n, got)
			}
		}
	}
}

// around are texts that have s at the beginning, between letters, and at the
// end, none of them too long for it.
func around(s string) []string { return []string{s, s + "a", "a" + s, "a" + s + "b", "ä" + s + "ß"} }

// TestFitAndFoldOfOtherForm is of P2.1: runes that are no letters between
// letters, and texts that are not valid UTF-8.
func TestFitAndFoldOfOtherForm(t *testing.T) {
	var l []string
	for _, r := range strange {
		l = append(l, around(string(r))...)
	}
	for _, s := range invalid {
		l = append(l, around(s)...)
	}
	for _, s := range l {
		if name.Fit(s) {
			t.Errorf("Fit(%q) is true", s)
		}
		checkFold(t, s, "", api.ErrForm)
	}
}

// TestFitOfEachRune is of P2.1: each rune alone, in a name, and at its end.
func TestFitOfEachRune(t *testing.T) {
	want := nameRunes()
	for r := rune(0); r <= last; r++ {
		s := string(r)
		if got := name.Fit(s); got != (want[r] && r != '-') {
			t.Errorf("Fit(%q) is %v", s, got)
		}
		for _, s := range []string{"a" + s, "a" + s + "b", "abcdefghijk" + s} {
			if got := name.Fit(s); got != want[r] {
				t.Errorf("Fit(%q) is %v", s, got)
			}
		}
		if name.Fit("abcdefghijkl" + s) {
			t.Errorf("Fit of 12 runes and %q is true", s)
		}
	}
}

// checkFold holds one answer of Fold against what is wanted.
func checkFold(t *testing.T, s, want string, wantErr api.Errno) {
	t.Helper()
	if got, err := name.Fold(s); got != want || err != wantErr {
		t.Errorf("Fold(%.40q) is %q, %d; want %q, %d", s, got, err, want, wantErr)
	}
}

// TestFold is of P2.1.
func TestFold(t *testing.T) {
	for _, c := range []struct{ s, want string }{
		{"a", "a"}, {"A", "a"}, {"Z", "z"}, {"Äb", "äb"}, {"ÄB", "äb"}, {"äB", "äb"},
		{"Tea", "tea"}, {"TEA", "tea"}, {"tea", "tea"}, {"tEa-9", "tea-9"}, {"X-Y", "x-y"},
		{"À", "à"}, {"Þ", "þ"}, {"Ö", "ö"}, {"Ø", "ø"}, {"ß", "ß"}, {"ÿ", "ÿ"}, {"Aß", "aß"},
		{"0", "0"}, {"9-", "9-"}, {"A--", "a--"},
		{"ABCDEFGHIJKL", "abcdefghijkl"}, {"ÄÄÄÄÄÄÄÄÄÄÄÄ", "ääääääääääää"},
		{"ÞÞÞÞÞÞÞÞÞÞÞÞ", "þþþþþþþþþþþþ"}, {"A-----------", "a-----------"},
	} {
		checkFold(t, c.s, c.want, api.OK)
	}
	for _, s := range []string{
		"", "-", "-a", "-A", "--", "-Ä", "A×B", "a÷b", "A b", "A_B", "[", "@", "`", "{", "A[", "@A",
		"ABCDEFGHIJKLM", "ÄÄÄÄÄÄÄÄÄÄÄÄÄ", "A------------", "-ABCDEFGHIJK",
		"Œ", "Ÿ", "ẞ", "\u212a", "İ", "aſ", "A\u0308",
		strings.Repeat("A", 1000), strings.Repeat("Ä", 1<<20),
		// What comes after 12 runes is not left out.
		"abcdefghijkl\xff", "abcdefghijkl ", "abcdefghijkl-", "ABCDEFGHIJKL\x00",
	} {
		checkFold(t, s, "", api.ErrForm)
	}
}

// TestFoldOfEachRune is of P2.1: each rune alone, in a name, and at its end.
func TestFoldOfEachRune(t *testing.T) {
	want := foldings()
	if len(want) != 26+30+26+10+1+32 {
		t.Fatalf("%d foldings are written out", len(want))
	}
	for r := rune(0); r <= last; r++ {
		folded, is := want[r]
		s, f := string(r), string(folded)
		if !is {
			for _, s := range []string{s, "A" + s, "A" + s + "B"} {
				checkFold(t, s, "", api.ErrForm)
			}
			continue
		}
		if r == '-' {
			checkFold(t, s, "", api.ErrForm)
		} else {
			checkFold(t, s, f, api.OK)
			checkFold(t, s+"-A", f+"-a", api.OK)
		}
		checkFold(t, "A"+s+"Ö", "a"+f+"ö", api.OK)
		checkFold(t, "ABCDEFGHIJK"+s, "abcdefghijk"+f, api.OK)
		checkFold(t, "ABCDEFGHIJKL"+s, "", api.ErrForm)
	}
}

// checkFind holds one answer of Find against what is wanted.
func checkFind(t *testing.T, l []string, s string, want int, wantIs bool) {
	t.Helper()
	if got, is := name.Find(l, s); got != want || is != wantIs {
		t.Errorf("Find(%q, %q) is %d, %v; want %d, %v", l, s, got, is, want, wantIs)
	}
}

// TestFind is of P2.2: in ascending lists.
func TestFind(t *testing.T) {
	for _, c := range []struct {
		l    []string
		s    string
		want int
		is   bool
	}{
		{nil, "", 0, false}, {nil, "a", 0, false}, {[]string{}, "a", 0, false},
		{[]string{"a"}, "a", 0, true}, {[]string{"b"}, "a", 0, false}, {[]string{"a"}, "b", 1, false},
		{[]string{"a", "c"}, "b", 1, false}, {[]string{"a", "c"}, "a", 0, true},
		{[]string{"a", "c"}, "c", 1, true}, {[]string{"a", "c"}, "d", 2, false},
		{[]string{"a", "c"}, "", 0, false}, {[]string{"", "a"}, "", 0, true},
		{[]string{"a", "ab", "b"}, "aa", 1, false}, {[]string{"a", "ab", "b"}, "ab", 1, true},
		{[]string{"a", "ab", "b"}, "abc", 2, false}, {[]string{"ab"}, "a", 0, false},
		// Byte by byte: uppercase first, and two bytes after one.
		{[]string{"A", "a"}, "Z", 1, false}, {[]string{"Z", "a"}, "Ä", 2, false},
		{[]string{"z", "ß", "ä", "ÿ"}, "ä", 2, true}, {[]string{"z", "ß", "ä", "ÿ"}, "zz", 1, false},
		{[]string{"-", "0", "a"}, "-a", 1, false}, {[]string{"\uffff"}, "\U00010000", 1, false},
		{[]string{"\U0010ffff"}, "\xff", 1, false}, {[]string{"\x80"}, "\u00e4", 1, false},
		{[]string{"a", "b\x00"}, "b", 1, false}, {[]string{"a\xff", "b"}, "a\xfe", 0, false},
		// The first of those that are the same.
		{[]string{"a", "b", "b", "b", "c"}, "b", 1, true}, {[]string{"a", "a"}, "a", 0, true},
		{[]string{"a", "a"}, "b", 2, false},
	} {
		checkFind(t, c.l, c.s, c.want, c.is)
	}
}

// TestFindInAnyList is of P2.2: what counts is the first one that is not less.
func TestFindInAnyList(t *testing.T) {
	for _, c := range []struct {
		l    []string
		s    string
		want int
		is   bool
	}{
		{[]string{"c", "a"}, "a", 0, false}, {[]string{"c", "a", "b"}, "b", 0, false},
		{[]string{"c", "a", "b"}, "c", 0, true}, {[]string{"a", "d", "c"}, "c", 1, false},
		{[]string{"b", "a", "c"}, "c", 2, true}, {[]string{"b", "a", "c"}, "d", 3, false},
		{[]string{"b", "a"}, "c", 2, false}, {[]string{"a", "c", "b", "c"}, "c", 1, true},
		{[]string{"a", "e", "b", "c", "d", "f"}, "c", 1, false},
		{[]string{"e", "d", "c", "b", "a"}, "a", 0, false},
		{[]string{"a", "b", "a", "b", "z", "b"}, "bb", 4, false},
	} {
		checkFind(t, c.l, c.s, c.want, c.is)
	}
}

// TestFindInShortLists is of P2.2: in each list of up to five of four texts,
// ascending or not.
func TestFindInShortLists(t *testing.T) {
	texts := []string{"", "a", "b", "ä"}
	var check func(l []string)
	check = func(l []string) {
		for _, s := range append([]string{"-", "aa", "ÿ"}, texts...) {
			want := 0
			for want < len(l) && strings.Compare(l[want], s) < 0 {
				want++
			}
			checkFind(t, l, s, want, want < len(l) && l[want] == s)
		}
		for _, s := range texts {
			if len(l) < 5 {
				check(append(slices.Clone(l), s))
			}
		}
	}
	check(nil)
}

// TestFindKeepsItsList is of rule 0.5, in P2.2.
func TestFindKeepsItsList(t *testing.T) {
	l := []string{"c", "a", "b"}
	name.Find(l, "b")
	if !slices.Equal(l, []string{"c", "a", "b"}) {
		t.Errorf("Find left %q", l)
	}
}

// short are all texts of up to three of some runes that names have, that are
// folded to them, and that they do not have.
func short() []string {
	runes := []string{"-", "0", "a", "A", "z", "Þ", "×", "ß", "ä", "÷", "ÿ", "\ufffd", "\xe4"}
	l, longest := []string{""}, []string{""}
	for range 3 {
		var longer []string
		for _, s := range longest {
			for _, r := range runes {
				longer = append(longer, s+r)
			}
		}
		l, longest = append(l, longer...), longer
	}
	return l
}

// TestFoldTwice is of P2.3.
func TestFoldTwice(t *testing.T) {
	folded := 0
	for _, s := range append(short(), "ABCDEFGHIJKL", "ÀÁÂÃÄÅÆÇÈÉÊË", "ÌÍÎÏÐÑÒÓÔÕÖØ", "ÙÚÛÜÝÞßÿa-09") {
		once, err := name.Fold(s)
		if err != api.OK {
			if name.Fit(s) {
				t.Errorf("Fold(%q), of a name, is %d", s, err)
			}
			continue
		}
		folded++
		if !name.Fit(once) {
			t.Errorf("Fold(%q) is %q, which is no name", s, once)
		}
		if twice, err := name.Fold(once); twice != once || err != api.OK {
			t.Errorf("Fold(%q) is %q, and folded again %q, %d", s, once, twice, err)
		}
		if name.Fit(s) && once != s {
			t.Errorf("Fold(%q), of a name, is %q", s, once)
		}
	}
	// Of one, two and three runes: eight may be the first, and nine others.
	if want := 8 + 8*9 + 8*9*9 + 4; folded != want {
		t.Errorf("%d texts were folded, want %d", folded, want)
	}
}

// byRunes compares two texts rune by rune.
func byRunes(a, b string) int { return slices.Compare([]rune(a), []rune(b)) }

// TestOrder is of P2.4: Find, which compares byte by byte, finds each name at
// its place in a list that is sorted rune by rune, and what is less or greater
// by its runes at the places between.
func TestOrder(t *testing.T) {
	var l []string
	for _, s := range short() {
		if name.Fit(s) {
			l = append(l, s)
		}
	}
	for r := range nameRunes() {
		l = append(l, "a"+string(r), "ä"+string(r)+"b")
	}
	slices.SortFunc(l, byRunes)
	l = slices.Compact(l)
	var half []string
	for i, s := range l {
		checkFind(t, l, s, i, true)
		if i%2 == 1 {
			half = append(half, s)
		}
	}
	for i, s := range l {
		checkFind(t, half, s, i/2, i%2 == 1)
	}
}

// TestOrderOfEachRune is of P2.4: two runes that follow each other do so as
// names, or as any text, byte by byte.
func TestOrderOfEachRune(t *testing.T) {
	before := ""
	for r := rune(0); r <= last; r++ {
		if r >= 0xd800 && r <= 0xdfff {
			continue
		}
		if n, is := name.Find([]string{before}, string(r)); n != 1 || is {
			t.Errorf("Find([%q], %q) is %d, %v", before, string(r), n, is)
		}
		before = string(r)
	}
	for _, a := range strange {
		for _, b := range strange {
			n, is := name.Find([]string{string(a)}, string(b))
			if (n == 1) != (a < b) || is != (a == b) || cmp.Compare(string(a), string(b)) != cmp.Compare(a, b) {
				t.Errorf("Find([%q], %q) is %d, %v", string(a), string(b), n, is)
			}
		}
	}
}
