package lines_test

import (
	"math"
	"regexp"
	"slices"
	"strconv"
	"strings"
	"testing"

	"drayman/api"
	"drayman/lines"
)

// lineForm is the form of a line's text.
var lineForm = regexp.MustCompile(`^([a-z0-9\x{df}-\x{f6}\x{f8}-\x{ff}][-a-z0-9\x{df}-\x{f6}\x{f8}-\x{ff}]{0,11}):([1-9][0-9]{0,6})$`)

// wantRead is the reference of Read: the text in parts, each held against the
// form of a line's text.
func wantRead(s string) ([]api.Line, api.Errno) {
	if s == "" {
		return nil, api.OK
	}
	var l []api.Line
	for _, part := range strings.Split(s, ",") {
		m := lineForm.FindStringSubmatch(part)
		if m == nil {
			return nil, api.ErrForm
		}
		n, err := strconv.Atoi(m[2])
		if err != nil {
			return nil, api.ErrForm
		}
		l = append(l, api.Line{Sku: m[1], N: n})
	}
	if !wantFit(l) {
		return nil, api.ErrForm
	}
	return l, api.OK
}

// checkText holds an answer of Text against what is wanted.
func checkText(t *testing.T, l []api.Line, want string) {
	t.Helper()
	if got := lines.Text(l); got != want {
		t.Errorf("Text is %q, want %q, of %s", got, want, short(l))
	}
}

// checkRead holds an answer of Read against what is wanted, and what Text
// answers of it against the text.
func checkRead(t *testing.T, s string, want []api.Line, wantErr api.Errno) {
	t.Helper()
	got, err := lines.Read(s)
	if err != wantErr || !slices.Equal(got, want) {
		t.Fatalf("Read(%.60q) is %d and %s; want %d and %s", s, err, short(got), wantErr, short(want))
	}
	if err == api.OK {
		checkText(t, got, s)
	}
}

// TestText is of P11.2: lists that are fit.
func TestText(t *testing.T) {
	checkText(t, nil, "")
	checkText(t, []api.Line{}, "")
	for _, c := range []struct{ l, want string }{
		{"salt 1, tea 5", "salt:1,tea:5"}, {"tea 5", "tea:5"}, {"tea 1", "tea:1"}, {"tea 10", "tea:10"}, {"tea 1048576", "tea:1048576"}, {"0 100", "0:100"},
		{"a 1, b 20, c 300, d 4000", "a:1,b:20,c:300,d:4000"}, {"a- 1, a0 1, a0- 9", "a-:1,a0:1,a0-:9"}, {"z 1, ß 2, äö 3", "z:1,ß:2,äö:3"}, {"abcdefghijkl 12", "abcdefghijkl:12"},
		{"ÿÿÿÿÿÿÿÿÿÿÿÿ 1048576", "ÿÿÿÿÿÿÿÿÿÿÿÿ:1048576"},
	} {
		checkText(t, of(c.l), c.want)
	}
	for _, sku := range goodSkus() {
		for _, n := range goodNs() {
			checkText(t, []api.Line{{Sku: sku, N: n}}, sku+":"+strconv.Itoa(n))
		}
	}
}

// TestTextOfUnfit is of P11.2: lists that are not fit have no text.
func TestTextOfUnfit(t *testing.T) {
	for _, s := range []string{"tea 5, salt 1", "tea 5, tea 5", "Tea 5", "salt 1, Tea 5", "tea 0", "tea -1", "tea 1048577", "a 1, b 0", "a 0, b 1", " 1", "-a 1",
		"a 1, b 2, c 3, d 4, e 5", "a 1, b 2, c 3, c 4", "a 9223372036854775807", "a -9223372036854775808"} {
		checkText(t, of(s), "")
	}
	for _, sku := range badSkus() {
		checkText(t, []api.Line{{Sku: sku, N: 1}}, "")
		checkText(t, []api.Line{{Sku: "a", N: 1}, {Sku: sku, N: 1}}, "")
	}
	for _, n := range badNs() {
		checkText(t, []api.Line{{Sku: "a", N: n}}, "")
	}
	for many := 5; many < 40; many++ {
		checkText(t, some(many), "")
	}
}

// TestRead is of P11.2: texts of fit lines.
func TestRead(t *testing.T) {
	checkRead(t, "", nil, api.OK)
	for _, c := range []struct{ s, want string }{
		{"salt:1,tea:5", "salt 1, tea 5"}, {"tea:5", "tea 5"}, {"tea:1", "tea 1"}, {"tea:1048576", "tea 1048576"}, {"tea:1000000", "tea 1000000"}, {"0:10", "0 10"}, {"9:9", "9 9"},
		{"a:1,b:20,c:300,d:4000", "a 1, b 20, c 300, d 4000"}, {"a:1,a-:2,a0:3,aa:4", "a 1, a- 2, a0 3, aa 4"}, {"z:1,ß:2,ÿ:3", "z 1, ß 2, ÿ 3"},
		{"abcdefghijkl:1,ääääääääääää:2", "abcdefghijkl 1, ääääääääääää 2"}, {"a---:1", "a--- 1"},
	} {
		checkRead(t, c.s, of(c.want), api.OK)
	}
	for _, sku := range goodSkus() {
		for _, n := range goodNs() {
			checkRead(t, sku+":"+strconv.Itoa(n), []api.Line{{Sku: sku, N: n}}, api.OK)
		}
	}
}

// TestReadOfOtherForm is of P11.2: texts of no fit lines.
func TestReadOfOtherForm(t *testing.T) {
	for _, s := range []string{
		"tea:0", "tea:-1", "tea:+1", "tea:-0", "tea:1048577", "tea:9223372036854775807", "tea:9223372036854775808", "tea:-9223372036854775808",
		"tea:18446744073709551617", "tea:4294967297", "tea:" + strings.Repeat("1", 100), "tea:" + strings.Repeat("9", 1<<16),
		",", ",,", ",tea:5", "tea:5,", "tea:5,,", "salt:1,,tea:5", ",salt:1,tea:5", "salt:1,tea:5,", "a:1,b:1,c:1,d:1,", ",a:1,b:1,c:1,d:1",
		"tea", "tea:", ":", ":5", "::", "tea::5", ":tea:5", "tea:5:", "tea:5:5", "tea:5:salt:1", "tea5", "tea=5", "tea;5", "tea.5", "5", "5:tea", "salt,tea:5", "salt:,tea:5", "salt:1,tea", "salt:1,tea:",
		"salt:1,:5", "tea:05", "tea:00", "tea:005", "tea:01048576", "tea:1e3", "tea:0x5", "tea:5.0", "tea:1_000", "tea:1,000", "tea:five", "tea:٥", "tea:５", "tea:²",
		" ", " tea:5", "tea:5 ", "tea :5", "tea: 5", "salt:1, tea:5", "salt:1 ,tea:5", "salt:1 tea:5", "tea:5\n", "\ttea:5", "tea:5\x00", "\x00", "salt:1;tea:5", "salt:1:tea:5",
		"a:1,b:1,c:1,d:1,e:1", "a:1,b:1,c:1,d:1,e:1,f:1", "a:1,b:1,c:1,d:1,d:1", "a:1,b:1,c:1,d:1,-", "a:1,b:1,c:1,d:1,e", "e:1,a:1,b:1,c:1,d:1",
		"tea:5,salt:1", "tea:5,tea:5", "tea:5,tea:6", "b:1,a:1", "a:1,c:1,b:1", "a:1,b:1,d:1,c:1", "a0:1,a-:1", "ß:1,z:1", "ab:1,a:1", "a:1,b:1,a:1",
		"Tea:5", "salt:1,Tea:5", "-a:1", "a_b:1", "a b:1", "Ä:1", "÷:1", "€:1", "\xff:1", "a\xc3:1", "tea:\xff", "tea:5\xff", "\xfftea:5", "abcdefghijklm:1", "äääääääääääää:1",
		"tea:5,-salt:1", "tea:0,salt:1", "salt:0,tea:5", "salt:1,tea:0", "salt:1,tea:05",
	} {
		checkRead(t, s, nil, api.ErrForm)
		if _, want := wantRead(s); want != api.ErrForm {
			t.Errorf("%q is the text of fit lines", s)
		}
	}
	for _, sku := range badSkus() {
		checkRead(t, sku+":1", nil, api.ErrForm)
		checkRead(t, "0:1,"+sku+":1", nil, api.ErrForm)
	}
	for _, n := range badNs() {
		checkRead(t, "a:"+strconv.Itoa(n), nil, api.ErrForm)
		checkRead(t, "a:1,b:"+strconv.Itoa(n), nil, api.ErrForm)
	}
}

// TestReadOfLong is of P11.2 and rule 0.1: texts of any length.
func TestReadOfLong(t *testing.T) {
	for _, s := range []string{",", ":", "a", "0", "1", " ", "a:", "a:1", "a:1,", ",a:1", "\xff", "é"} {
		checkRead(t, strings.Repeat(s, 1<<18), nil, api.ErrForm)
		checkRead(t, "a:1,b:"+strings.Repeat(s, 1<<18), nil, api.ErrForm)
	}
	for many := 5; many < 60; many++ {
		var parts []string
		for _, x := range some(many) {
			parts = append(parts, x.Sku+":"+strconv.Itoa(x.N))
		}
		checkRead(t, strings.Join(parts, ","), nil, api.ErrForm)
	}
}

// TestReadOfEachNumber is of P11.2: each number that a line may have, and those
// around it, with and without a zero ahead.
func TestReadOfEachNumber(t *testing.T) {
	for n := -20; n <= 1<<20+20; n++ {
		var want []api.Line
		err := api.ErrForm
		if n >= 1 && n <= 1<<20 {
			want, err = []api.Line{{Sku: "tea", N: n}}, api.OK
		}
		checkRead(t, "tea:"+strconv.Itoa(n), want, err)
		if n%1000 < 20 {
			checkRead(t, "tea:0"+strconv.Itoa(n), nil, api.ErrForm)
		}
	}
}

// TestReadOfShort is of P11.2 and P11.3: all short texts of some characters,
// held against the reference; each that is read is the text of what is read.
func TestReadOfShort(t *testing.T) {
	read := 0
	var check func(s string, left int)
	check = func(s string, left int) {
		want, err := wantRead(s)
		checkRead(t, s, want, err)
		if err == api.OK {
			read++
		}
		if left == 0 {
			return
		}
		for _, c := range "ab01:,-A " {
			check(s+string(c), left-1)
		}
	}
	check("", 6)
	check("a:1,b:1,c:1", 4)
	if read < 300 {
		t.Errorf("only %d texts were read", read)
	}
}

// TestReadOfChanged is of P11.2: texts of which one byte is another, is not
// there or is there twice, or behind which there is one.
func TestReadOfChanged(t *testing.T) {
	for _, s := range []string{"salt:1,tea:5", "a:1,b:20,c:300,d:4000", "z:1048576,ß:999999", "a-0:10"} {
		check := func(s string) {
			want, err := wantRead(s)
			checkRead(t, s, want, err)
		}
		for i := range len(s) + 1 {
			check(s[:i])
			check(s[i:])
			for b := range 256 {
				check(s[:i] + string([]byte{byte(b)}) + s[i:])
				if i < len(s) {
					check(s[:i] + string([]byte{byte(b)}) + s[i+1:])
				}
			}
			if i < len(s) {
				check(s[:i] + s[i+1:])
				check(s[:i] + s[i:i+1] + s[i:])
			}
		}
	}
}

// TestReadOfText is of P11.3: lists that are fit are there again, read from
// their text.
func TestReadOfText(t *testing.T) {
	read := 0
	for _, l := range fits() {
		got, err := lines.Read(lines.Text(l))
		if err != api.OK || !slices.Equal(got, l) {
			t.Errorf("Read of the text %q is %d and %s", lines.Text(l), err, short(got))
		}
		read++
	}
	if read < 5000 {
		t.Errorf("only %d lists were read", read)
	}
}

// fits are lists that are fit: of no lines to four, of each two and some three
// and four good Skus, and with each good number.
func fits() [][]api.Line {
	l := [][]api.Line{nil}
	skus, ns := goodSkus(), goodNs()
	for i, a := range skus {
		for k, n := range ns {
			l = append(l, []api.Line{{Sku: a, N: n}})
			for j, b := range skus[i+1:] {
				two := []api.Line{{Sku: a, N: n}, {Sku: b, N: ns[(k+j)%len(ns)]}}
				l = append(l, two)
				if rest := skus[i+1+j+1:]; len(rest) > 1 {
					three := append(slices.Clip(two), api.Line{Sku: rest[0], N: j + 1})
					l = append(l, three, append(slices.Clip(three), api.Line{Sku: rest[len(rest)-1], N: 1<<20 - k}))
				}
			}
		}
	}
	return l
}

// unfits are lists that are not fit: each bad Sku that Take can read, each bad
// number, lines in other orders, and lines twice.
func unfits() [][]api.Line {
	l := [][]api.Line{of("tea 5, salt 1"), of("tea 5, tea 5"), of("d 4, c 3, b 2, a 1"), {{}}, {{}, {}}, make([]api.Line, 4), of("a 1, a 1, a 1, a 1")}
	for _, sku := range badSkus() {
		if len(sku) <= 48 {
			l = append(l, []api.Line{{Sku: sku, N: 1}}, []api.Line{{Sku: "a", N: 1}, {Sku: sku, N: -1}})
		}
	}
	for sku := range upperSkus() {
		l = append(l, []api.Line{{Sku: sku, N: 0}})
	}
	for _, n := range badNs() {
		l = append(l, []api.Line{{Sku: "a", N: n}}, []api.Line{{Sku: "a", N: 1}, {Sku: "b", N: 2}, {Sku: "c", N: n}, {Sku: "", N: n}})
	}
	for size := range 49 {
		l = append(l, []api.Line{{Sku: strings.Repeat("x", size), N: size}}, []api.Line{{Sku: strings.Repeat("\xff", size), N: math.MinInt}})
	}
	return l
}
