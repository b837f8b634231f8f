package lines_test

import (
	"math"
	"regexp"
	"slices"
	"strconv"
	"strings"
	"testing"
	"unicode"

	"drayman/api"
	"drayman/lines"
)

// nameForm is the form of a name, as chapter 2 defines it.
var nameForm = regexp.MustCompile(`^[a-z0-9\x{df}-\x{f6}\x{f8}-\x{ff}][-a-z0-9\x{df}-\x{f6}\x{f8}-\x{ff}]{0,11}$`)

// goodSkus are names, in ascending order byte by byte: "-" is before the
// digits, these are before the letters, and the letters before all of two bytes.
func goodSkus() []string {
	return []string{"0", "00", "9", "a", "a-", "a--", "a-b", "a0", "aa", "abcdefghijkl", "b", "salt", "tea", "z", "zz", "zß",
		"ß", "ßa", "ßß", "ä", strings.Repeat("ä", 12), "ö", "ø", "ÿ", strings.Repeat("ÿ", 12)}
}

// upperSkus are no names, but Fold makes names of them: their names.
func upperSkus() map[string]string {
	return map[string]string{"A": "a", "Tea": "tea", "tEA": "tea", "Z": "z", "Ä": "ä", "Þ": "þ", "À": "à", "A-B": "a-b",
		"ABCDEFGHIJKL": "abcdefghijkl", strings.Repeat("Ä", 12): strings.Repeat("ä", 12)}
}

// badSkus are no names, and Fold makes none of them.
func badSkus() []string {
	return []string{"", "-", "-a", "-A", " ", "a ", " a", "a b", "a:", "a,", ":", ",", "a.b", "a_b", "a\x00", "\x00", "a\n", "÷", "×", "Ā", "€", "𝔞",
		"\xff", "a\xff", "\xc3", "a\xc3", "\xa4", "\xc0\xa1", "\xed\xa0\x80", "\ufffd", "abcdefghijklm", "ABCDEFGHIJKLM",
		strings.Repeat("ä", 13), strings.Repeat("Ä", 13), strings.Repeat("a", 48), strings.Repeat("a", 49), strings.Repeat("a", 1<<16)}
}

// goodNs are numbers that a line may have.
func goodNs() []int { return []int{1, 2, 3, 9, 10, 1 << 10, 1<<20 - 1, 1 << 20} }

// badNs are numbers that no line may have.
func badNs() []int {
	return []int{math.MinInt, math.MinInt + 1, -1 << 62, -1<<32 + 1, -1 << 32, -1 << 20, -2, -1, 0, 1<<20 + 1, 1 << 21, 1<<32 - 1, 1 << 32, 1<<32 + 1,
		1<<40 - 1, 1 << 40, 1<<40 + 1, 1 << 62, math.MaxInt - 1, math.MaxInt}
}

// of makes lines of Skus and numbers: "tea 5, salt 1".
func of(s string) []api.Line {
	var l []api.Line
	for _, part := range strings.Split(s, ", ") {
		sku, digits, _ := strings.Cut(part, " ")
		n, err := strconv.Atoi(digits)
		if err != nil {
			panic(err)
		}
		l = append(l, api.Line{Sku: sku, N: n})
	}
	return l
}

// some makes as many lines as asked for, each with the number of its place.
func some(many int) []api.Line {
	var l []api.Line
	for i := range many {
		l = append(l, api.Line{Sku: "s" + string(rune('a'+i/26)) + string(rune('a'+i%26)), N: i + 1})
	}
	return l
}

// wantFit is the reference of Fit: each condition for all lines.
func wantFit(l []api.Line) bool {
	is := len(l) <= 4
	for i := range l {
		is = is && nameForm.MatchString(l[i].Sku) && l[i].N >= 1 && l[i].N <= 1048576
		for j := range i {
			is = is && strings.Compare(l[j].Sku, l[i].Sku) < 0
		}
	}
	return is
}

// wantNorm is the reference of Norm: error by error, each for all lines, and
// the lines put into their places one by one.
func wantNorm(l []api.Line) ([]api.Line, api.Errno) {
	fold := func(r rune) rune {
		if r <= 0xff {
			return unicode.ToLower(r)
		}
		return r
	}
	var folded []api.Line
	for _, x := range l {
		sku := strings.Map(fold, x.Sku)
		if !nameForm.MatchString(sku) {
			return nil, api.ErrForm
		}
		folded = append(folded, api.Line{Sku: sku, N: x.N})
	}
	for _, x := range folded {
		if x.N < 1 || x.N > 1048576 {
			return nil, api.ErrRange
		}
	}
	var merged []api.Line
	for _, x := range folded {
		i, is := slices.BinarySearchFunc(merged, x, func(a, b api.Line) int { return strings.Compare(a.Sku, b.Sku) })
		if is {
			merged[i].N += x.N
		} else {
			merged = slices.Insert(merged, i, x)
		}
	}
	for _, x := range merged {
		if x.N > 1048576 {
			return nil, api.ErrOver
		}
	}
	if len(merged) > 4 {
		return nil, api.ErrLong
	}
	return merged, api.OK
}

// short writes lines for a message, but not more of them than can be read.
func short(l []api.Line) string {
	var s strings.Builder
	for i, x := range l {
		if i == 8 {
			s.WriteString(" and more")
			break
		}
		s.WriteString(" " + strconv.Quote(x.Sku[:min(len(x.Sku), 60)]) + " " + strconv.Itoa(x.N))
	}
	return strconv.Itoa(len(l)) + " lines:" + s.String()
}

// checkFit holds an answer of Fit against what is wanted.
func checkFit(t *testing.T, l []api.Line, want bool) {
	t.Helper()
	if got := lines.Fit(l); got != want {
		t.Errorf("Fit is %t of %s", got, short(l))
	}
}

// checkNorm holds an answer of Norm against what is wanted, and what is handed
// in against what it was.
func checkNorm(t *testing.T, l, want []api.Line, wantErr api.Errno) {
	t.Helper()
	was := slices.Clone(l)
	got, err := lines.Norm(l)
	if err != wantErr || !slices.Equal(got, want) {
		t.Fatalf("Norm is %d and %s; want %d and %s; of %s", err, short(got), wantErr, short(want), short(l))
	}
	if !slices.Equal(l, was) {
		t.Fatalf("Norm left %s of %s", short(l), short(was))
	}
	if err == api.OK && !wantFit(got) {
		t.Fatalf("Norm is not fit: %s", short(got))
	}
}

// checkSum holds an answer of Sum against what is wanted.
func checkSum(t *testing.T, l []api.Line, want int) {
	t.Helper()
	if got := lines.Sum(l); got != want {
		t.Errorf("Sum is %d, want %d, of %s", got, want, short(l))
	}
}

// orders calls do with the lines in every order.
func orders(l []api.Line, do func(l []api.Line)) {
	l = slices.Clone(l)
	var place func(i int)
	place = func(i int) {
		if i == len(l) {
			do(slices.Clone(l))
			return
		}
		for j := i; j < len(l); j++ {
			l[i], l[j] = l[j], l[i]
			place(i + 1)
			l[i], l[j] = l[j], l[i]
		}
	}
	place(0)
}

// TestFit is of P11.1: lists that are fit, and such as are not.
func TestFit(t *testing.T) {
	checkFit(t, nil, true)
	checkFit(t, []api.Line{}, true)
	for _, s := range []string{"tea 5", "tea 1", "tea 1048576", "salt 1, tea 5", "a 1, b 1, c 1, d 1", "a 1048576, b 1048576, c 1048576, d 1048576",
		"a 1, a- 1, a0 1, aa 1", "0 1, 9 1, a 1, z 1", "z 1, ß 1, ä 1, ÿ 1", "a 1, ab 1, abc 1, abcd 1", "a--- 1, abcdefghijkl 2, ääääääääääää 3"} {
		checkFit(t, of(s), true)
	}
	for _, s := range []string{"tea 0", "tea -1", "tea 1048577", "tea 5, salt 1", "tea 5, tea 5", "tea 5, tea 6", "Tea 5", "salt 1, Tea 5",
		"a 1, b 1, c 1, d 1, e 1", "a 1, b 1, b 1, c 1", "a 1, c 1, b 1, d 1", "b 1, a 1, c 1, d 1", "a 1, b 1, d 1, c 1", "a 1, b 1, a 1", "a- 1, a 1", "a0 1, a- 1",
		"ab 1, a 1", "ß 1, z 1", "a 1, b 0", "a 0, b 1", "a 1, b 1, c 1, d 0", "a 1, b 1, c 1048577, d 1", "a 1, -b 1", "-a 1, b 1", " 1", "a 1,  1"} {
		checkFit(t, of(s), false)
	}
}

// TestFitOfEachLine is of P11.1: each Sku and each number, alone, and at each
// place of a list that is fit but for it.
func TestFitOfEachLine(t *testing.T) {
	for _, sku := range goodSkus() {
		for _, n := range goodNs() {
			checkFit(t, []api.Line{{Sku: sku, N: n}}, true)
		}
		for _, n := range badNs() {
			checkFit(t, []api.Line{{Sku: sku, N: n}}, false)
		}
	}
	bad := badSkus()
	for sku := range upperSkus() {
		bad = append(bad, sku)
	}
	for many := 1; many <= 4; many++ {
		for at := range many {
			for _, sku := range bad {
				l := some(many)
				l[at].Sku = sku
				checkFit(t, l, false)
				// The same place, with a Sku that ascends.
				l[at].Sku = "s" + string(rune('a'+at/26)) + string(rune('a'+at%26)) + sku
				checkFit(t, l, wantFit(l))
			}
			for _, n := range badNs() {
				l := some(many)
				l[at].N = n
				checkFit(t, l, false)
			}
		}
	}
}

// TestFitOfEachLength is of P11.1.
func TestFitOfEachLength(t *testing.T) {
	for many := range 300 {
		checkFit(t, some(many), many <= 4)
	}
	checkFit(t, make([]api.Line, 4), false)
	checkFit(t, make([]api.Line, 1<<20), false)
}

// TestFitOfEachOrder is of P11.1: of every two, and every three of some Skus,
// just those in strictly ascending order.
func TestFitOfEachOrder(t *testing.T) {
	skus := goodSkus()
	for i, a := range skus {
		for j, b := range skus {
			checkFit(t, []api.Line{{Sku: a, N: 1}, {Sku: b, N: 1}}, i < j)
			for k, c := range skus {
				checkFit(t, []api.Line{{Sku: a, N: 3}, {Sku: b, N: 2}, {Sku: c, N: 1}}, i < j && j < k)
			}
		}
	}
	orders(of("a 4, b 3, c 2, d 1"), func(l []api.Line) {
		checkFit(t, l, slices.Equal(l, of("a 4, b 3, c 2, d 1")))
	})
}

// TestNorm is of P11.1: lists that have fit lines.
func TestNorm(t *testing.T) {
	checkNorm(t, nil, nil, api.OK)
	checkNorm(t, []api.Line{}, nil, api.OK)
	for _, c := range []struct{ l, want string }{
		{"Tea 2, salt 1, tea 3", "salt 1, tea 5"},
		{"tea 5", "tea 5"}, {"TEA 5", "tea 5"}, {"Ä 1, ä 2", "ä 3"},
		{"tea 5, salt 1", "salt 1, tea 5"}, {"d 1, c 2, b 3, a 4", "a 4, b 3, c 2, d 1"},
		{"a 1, A 1, b 1, B 1, c 1, C 1, d 1, D 1", "a 2, b 2, c 2, d 2"},
		{"a 1, a 1, a 1, a 1, a 1", "a 5"}, {"a 1, b 1, c 1, d 1, a 1", "a 2, b 1, c 1, d 1"},
		{"tea 1048576", "tea 1048576"}, {"tea 1048575, Tea 1", "tea 1048576"}, {"tea 1, tea 1048575", "tea 1048576"},
		{"tea 524288, tea 524288", "tea 1048576"}, {"a 1048576, b 1048576, c 1048576, d 1048576", "a 1048576, b 1048576, c 1048576, d 1048576"},
		{"ß 1, z 1, a0 1, a- 1", "a- 1, a0 1, z 1, ß 1"}, {"ab 1, a 1", "a 1, ab 1"},
	} {
		checkNorm(t, of(c.l), of(c.want), api.OK)
	}
	for sku, folded := range upperSkus() {
		checkNorm(t, []api.Line{{Sku: sku, N: 7}}, []api.Line{{Sku: folded, N: 7}}, api.OK)
		checkNorm(t, []api.Line{{Sku: folded, N: 1}, {Sku: sku, N: 7}}, []api.Line{{Sku: folded, N: 8}}, api.OK)
	}
	for _, sku := range goodSkus() {
		checkNorm(t, []api.Line{{Sku: sku, N: 7}}, []api.Line{{Sku: sku, N: 7}}, api.OK)
	}
}

// TestNormErrors is of P11.1: each error alone, at its edges.
func TestNormErrors(t *testing.T) {
	for _, sku := range badSkus() {
		checkNorm(t, []api.Line{{Sku: sku, N: 1}}, nil, api.ErrForm)
		checkNorm(t, []api.Line{{Sku: "a", N: 1}, {Sku: sku, N: 1}}, nil, api.ErrForm)
		checkNorm(t, []api.Line{{Sku: sku, N: 1}, {Sku: "a", N: 1}}, nil, api.ErrForm)
	}
	for _, n := range badNs() {
		checkNorm(t, []api.Line{{Sku: "a", N: n}}, nil, api.ErrRange)
		checkNorm(t, []api.Line{{Sku: "a", N: 1}, {Sku: "b", N: n}}, nil, api.ErrRange)
		checkNorm(t, []api.Line{{Sku: "a", N: n}, {Sku: "b", N: 1}}, nil, api.ErrRange)
		for _, m := range append(badNs(), goodNs()...) {
			// Together some are a quantity, or leave int and come back to one.
			checkNorm(t, []api.Line{{Sku: "a", N: n}, {Sku: "a", N: m}}, nil, api.ErrRange)
			checkNorm(t, []api.Line{{Sku: "a", N: m}, {Sku: "A", N: n}}, nil, api.ErrRange)
		}
	}
	for _, s := range []string{"tea 1048576, tea 1", "tea 1, Tea 1048576", "tea 1048576, TEA 1048576", "tea 524289, tea 524288", "a 1, tea 1048576, b 1, tea 1",
		"tea 349526, tea 349526, tea 349525", "a 1048576, b 1048576, c 1048576, d 1048576, d 1"} {
		checkNorm(t, of(s), nil, api.ErrOver)
	}
	for _, s := range []string{"a 1, b 1, c 1, d 1, e 1", "e 1, d 1, c 1, b 1, a 1", "a 1, A 1, b 1, c 1, d 1, E 1", "a 1048576, b 1048576, c 1048576, d 1048576, e 1048576"} {
		checkNorm(t, of(s), nil, api.ErrLong)
	}
	for many := range 200 {
		want := some(many)
		err := api.OK
		if many > 4 {
			want, err = nil, api.ErrLong
		}
		checkNorm(t, some(many), want, err)
	}
}

// TestNormOfMany is of P11.1: so many lines that their sum leaves 32 bits, and
// is 0 in them.
func TestNormOfMany(t *testing.T) {
	for _, many := range []int{1 << 11, 1<<11 + 1, 1 << 12, 1<<12 + 1, 1 << 16, 1<<20 + 1} {
		checkNorm(t, slices.Repeat(of("tea 1048576"), many), nil, api.ErrOver)
	}
	checkNorm(t, slices.Repeat(of("tea 1"), 1<<20), of("tea 1048576"), api.OK)
	checkNorm(t, slices.Repeat(of("tea 1, Tea 1"), 1<<19), of("tea 1048576"), api.OK)
	checkNorm(t, slices.Repeat(of("tea 1"), 1<<20+1), nil, api.ErrOver)
	checkNorm(t, slices.Repeat(of("d 1, C 2, b 3, A 4"), 1<<18), of("a 1048576, b 786432, c 524288, d 262144"), api.OK)
}

// TestNormOfSeveralErrors is of P11.1 and rule 0.2: of each two errors, and of
// each three and all four, the first one that the chapter names, in every order.
func TestNormOfSeveralErrors(t *testing.T) {
	of := []struct {
		l   []api.Line
		err api.Errno
	}{
		{of("-a 1"), api.ErrForm}, {of("b 0"), api.ErrRange}, {of("c 1048576, C 1"), api.ErrOver}, {of("d 1, e 1, f 1, g 1, h 1"), api.ErrLong},
	}
	for set := 1; set < 1<<len(of); set++ {
		var places []api.Line
		want := api.OK
		for i := range of {
			if set>>i&1 == 1 {
				places = append(places, api.Line{N: i})
				if want == api.OK {
					want = of[i].err
				}
			}
		}
		orders(places, func(places []api.Line) {
			var l []api.Line
			for _, x := range places {
				l = append(l, of[x.N].l...)
			}
			checkNorm(t, l, nil, want)
			slices.Reverse(l)
			checkNorm(t, l, nil, want)
		})
	}
}

// TestNormOfOneLine is of P11.1: several errors of the same line, or of the
// same Sku.
func TestNormOfOneLine(t *testing.T) {
	for _, c := range []struct {
		l    string
		want api.Errno
	}{
		{"-a 0", api.ErrForm}, {"-a -1, b 0", api.ErrForm}, {"b 0, -a 1", api.ErrForm}, {"b 0, b 0, b 0, b 0, -a 0", api.ErrForm},
		{"-a 1048576, -a 1", api.ErrForm}, {"a 1048576, a 1048577", api.ErrRange}, {"a 1048576, a 1, a 0", api.ErrRange}, {"a 0, a 1048576, a 1", api.ErrRange},
		{"a 1048577, b 1, c 1, d 1, e 1", api.ErrRange}, {"a 1, b 1, c 1, d 1, e 0", api.ErrRange}, {"a 1, b 1, c 1, d 1, e 1048576, E 1", api.ErrOver},
		{"a 1048576, b 1, c 1, d 1, e 1, a 1", api.ErrOver}, {"a 1, b 1, c 1, d 1, e 1, -f 1", api.ErrForm},
	} {
		checkNorm(t, of(c.l), nil, c.want)
	}
}

// TestNormOfAny is of P11.1 and P11.4: all lists of up to four of some lines
// that have each error, held against the reference.
func TestNormOfAny(t *testing.T) {
	some := []api.Line{{Sku: "a", N: 1}, {Sku: "A", N: 1 << 20}, {Sku: "b", N: 1<<20 - 1}, {Sku: "B", N: 1}, {Sku: "c", N: 0}, {Sku: "a", N: 1<<20 + 1},
		{Sku: "d", N: 2}, {Sku: "e", N: 3}, {Sku: "ß", N: 4}, {Sku: "-", N: 5}, {Sku: "", N: 0}, {Sku: "F", N: math.MaxInt}}
	errs := map[api.Errno]int{}
	var check func(l []api.Line, left int)
	check = func(l []api.Line, left int) {
		want, err := wantNorm(l)
		checkNorm(t, l, want, err)
		errs[err]++
		if left == 0 {
			return
		}
		for _, x := range some {
			check(append(slices.Clip(l), x), left-1)
		}
	}
	check(nil, 4)
	check([]api.Line{{Sku: "x", N: 1}, {Sku: "y", N: 1}, {Sku: "z", N: 1}}, 3)
	for _, err := range []api.Errno{api.OK, api.ErrForm, api.ErrRange, api.ErrOver, api.ErrLong} {
		if errs[err] < 50 {
			t.Errorf("only %d lists were answered with %d", errs[err], err)
		}
	}
}

// TestNormOfEachOrder is of P11.4: the same lines in every order have the same
// answer, which is fit.
func TestNormOfEachOrder(t *testing.T) {
	for _, s := range []string{"Tea 2, salt 1, tea 3", "d 1, c 2, B 3, a 4, b 5, A 6", "a- 1, a 2, a0 3, ab 4, A- 5, AB 6", "ß 1, z 2, Ä 3, ä 4, ÿ 5, Z 6",
		"a 1048575, b 1, A 1, B 1048575", "a 1048576, A 1, b 1, c 1", "a 1, b 2, c 3, d 4, e 5", "a 1, b 2, c 3, d 4, e 5, E 1048576", "a 1, b 0, c -1, d 1048577", "a 1, b 0, -c 1, d 5, e 1, f 1"} {
		want, wantErr := wantNorm(of(s))
		orders(of(s), func(l []api.Line) { checkNorm(t, l, want, wantErr) })
	}
}

// TestNormOfNorm is of P11.4: what Norm answers is fit, and Norm of it is it.
func TestNormOfNorm(t *testing.T) {
	skus := goodSkus()
	many := 0
	for i := range skus {
		for j := range skus {
			l := []api.Line{{Sku: skus[i], N: i + 1}, {Sku: skus[j], N: 1 << 19}, {Sku: skus[(i*3+1)%len(skus)], N: 2}, {Sku: strings.ToUpper(skus[j]), N: 1}}
			got, err := lines.Norm(l)
			// Some have no uppercase letter that Fold would fold.
			if err != api.OK {
				continue
			}
			many++
			if !lines.Fit(got) {
				t.Errorf("Norm of %s is %s, which is not fit", short(l), short(got))
			}
			checkNorm(t, got, got, api.OK)
		}
	}
	if many < 400 {
		t.Errorf("only %d lists had fit lines", many)
	}
}

// TestNormIsNew is of rule 0.5, in P11.1: what Norm answers shares no memory
// with what it was given, nor with another answer.
func TestNormIsNew(t *testing.T) {
	l := of("a 1, b 2, c 3")
	first, _ := lines.Norm(l)
	second, _ := lines.Norm(l)
	for i := range first {
		first[i] = api.Line{Sku: "x", N: 9}
	}
	if !slices.Equal(l, of("a 1, b 2, c 3")) || !slices.Equal(second, of("a 1, b 2, c 3")) {
		t.Errorf("Norm shares: it was given %s and answered %s", short(l), short(second))
	}
}

// TestOf is of P11.1: of any list, fit or not.
func TestOf(t *testing.T) {
	for _, c := range []struct {
		l, sku string
		want   int
	}{
		{"salt 1, tea 5", "tea", 5}, {"salt 1, tea 5", "salt", 1}, {"salt 1, tea 5", "te", 0}, {"salt 1, tea 5", "tea ", 0}, {"salt 1, tea 5", "teas", 0},
		{"salt 1, tea 5", "Tea", 0}, {"salt 1, tea 5", "", 0}, {"salt 1, tea 5", "a", 0}, {"salt 1, tea 5", "soap", 0}, {"salt 1, tea 5", "z", 0},
		{"tea 5, tea 6", "tea", 5}, {"tea 0, tea 6", "tea", 0}, {"a 1, tea 7, b 1, tea 5", "tea", 7}, {"Tea 1, tea 2", "tea", 2}, {"Tea 1, tea 2", "Tea", 1},
		{"tea 5, salt 1", "tea", 5}, {"tea 5, salt 1", "salt", 1}, {"c 3, a 1, b 2", "b", 2}, {" 4", "", 4}, {"-a 4", "-a", 4}, {"tea -3", "tea", -3},
		{"tea 1048577", "tea", 1048577}, {"a 9223372036854775807, b -9223372036854775808", "b", math.MinInt}, {"a 9223372036854775807, a 1", "a", math.MaxInt},
		{"a 1, b 2, c 3, d 4, e 5, f 6", "f", 6}, {"ä 1, ö 2", "ö", 2}, {"ä 1, ö 2", "Ä", 0}, {"\xff 3", "\xff", 3}, {"\xff 3", "\ufffd", 0}, {"\ufffd 3", "\xff", 0},
	} {
		if got := lines.Of(of(c.l), c.sku); got != c.want {
			t.Errorf("Of(%q, %q) is %d, want %d", c.l, c.sku, got, c.want)
		}
	}
	for _, l := range [][]api.Line{nil, {}} {
		for _, sku := range []string{"", "tea", "-", "\xff"} {
			if got := lines.Of(l, sku); got != 0 {
				t.Errorf("Of no lines and %q is %d", sku, got)
			}
		}
	}
}

// TestOfEach is of P11.1: of long lists each Sku, and one that is not there.
func TestOfEach(t *testing.T) {
	l := some(500)
	for i, x := range l {
		if got := lines.Of(l, x.Sku); got != i+1 {
			t.Errorf("Of(%q) is %d, want %d", x.Sku, got, i+1)
		}
		if got := lines.Of(slices.Concat(l[:i], l[i+1:]), x.Sku); got != 0 {
			t.Errorf("Of(%q), which is not there, is %d", x.Sku, got)
		}
		if got := lines.Of(append(slices.Clip(l), api.Line{Sku: x.Sku, N: -1}), x.Sku); got != i+1 {
			t.Errorf("Of(%q), which is there twice, is %d, want %d", x.Sku, got, i+1)
		}
	}
}

// TestSum is of P11.1.
func TestSum(t *testing.T) {
	checkSum(t, nil, 0)
	checkSum(t, []api.Line{}, 0)
	for _, c := range []struct {
		l    string
		want int
	}{
		{"tea 1", 1}, {"tea 5", 5}, {"salt 1, tea 5", 6}, {"a 1, b 2, c 3, d 4", 10}, {"tea 1048576", 1 << 20},
		{"a 1048576, b 1048576", 1 << 21}, {"a 1048576, b 1048576, c 1048576, d 1048576", 1 << 22}, {"a 1048576, b 1048576, c 1048576, d 1048575", 1<<22 - 1},
		// None of these is fit.
		{"tea 0", 0}, {"tea -1", 0}, {"tea 1048577", 0}, {"tea 5, salt 1", 0}, {"tea 5, tea 5", 0}, {"Tea 5", 0}, {"-a 5", 0}, {" 5", 0}, {"a 1, b 0", 0}, {"a 0, b 1", 0},
		{"a 1, b 2, c 3, d 4, e 5", 0}, {"a 9223372036854775807, b 9223372036854775807, c 3", 0}, {"a 9223372036854775807", 0}, {"a -9223372036854775808", 0}, {"a 5, b -5", 0},
	} {
		checkSum(t, of(c.l), c.want)
	}
	for many := range 40 {
		want := many * (many + 1) / 2
		if many > 4 {
			want = 0
		}
		checkSum(t, some(many), want)
	}
	for _, sku := range badSkus() {
		checkSum(t, []api.Line{{Sku: sku, N: 1}}, 0)
	}
	for _, n := range badNs() {
		checkSum(t, []api.Line{{Sku: "a", N: n}}, 0)
		checkSum(t, []api.Line{{Sku: "a", N: 1}, {Sku: "b", N: n}}, 0)
	}
	for _, n := range goodNs() {
		checkSum(t, []api.Line{{Sku: "a", N: n}, {Sku: "b", N: 1}}, n+1)
	}
}

// TestSame is of P11.1: each two of these lists are the same only if they are
// the same one; both may be unfit.
func TestSame(t *testing.T) {
	var lists [][]api.Line
	for _, s := range []string{"tea 5", "tea 6", "tea 0", "tea -5", "Tea 5", "te 5", "teas 5", " 5", "\xff 5", "\ufffd 5", "salt 1", "salt 1, tea 5", "tea 5, salt 1", "salt 5, tea 1",
		"salt 1, tea 6", "salt 2, tea 5", "salt 1, tea 5, tea 5", "salt 1, tea 5, z 1", "a 1, salt 1, tea 5", "tea 5, tea 5", "tea 10", "a 1, b 1, c 1, d 1", "a 1, b 1, c 1, d 1, e 1",
		"a 1, b 1, c 1, d 1, e 2", "a 1, b 1, c 1, d 1, f 1", "a 9223372036854775807", "a -9223372036854775808", "a -1"} {
		lists = append(lists, of(s))
	}
	lists = append(lists, nil, some(499), some(500))
	for i, a := range lists {
		for j, b := range lists {
			if got := lines.Same(a, slices.Clone(b)); got != (i == j) {
				t.Errorf("Same is %t of %s and %s", got, short(a), short(b))
			}
		}
	}
	for _, a := range [][]api.Line{nil, {}} {
		for _, b := range [][]api.Line{nil, {}, make([]api.Line, 0, 4)} {
			if !lines.Same(a, b) || !lines.Same(b, a) {
				t.Errorf("no lines (nil: %t, %t) are not the same", a == nil, b == nil)
			}
		}
		if zero := []api.Line{{}}; lines.Same(a, zero) || lines.Same(zero, a) {
			t.Errorf("no lines are the same as a line of nothing")
		}
	}
}

// TestSameOfEachOrder is of P11.1: the same lines in another order are another
// list.
func TestSameOfEachOrder(t *testing.T) {
	l := of("a 1, b 2, c 3, d 4")
	same := 0
	orders(l, func(m []api.Line) {
		if lines.Same(l, m) {
			same++
		}
	})
	if same != 1 || !lines.Same(l, slices.Clone(l)) {
		t.Errorf("in %d orders the lines are the same list", same)
	}
}
