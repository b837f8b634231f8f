package saga_test

import (
	"fmt"
	"math"
	"regexp"
	"slices"
	"strings"
	"testing"

	"drayman/api"
	"drayman/def"
	"drayman/saga"
)

const most = 1 << 40

// The letters of Ops, of Classes and of marks, each at its number.
const (
	ops     = "?hakbst"
	classes = "?spf"
	kinds   = "nsdbux"
)

// nameForm is the form of a name, as chapter 2 defines it.
var nameForm = regexp.MustCompile(`^[a-z0-9\x{df}-\x{f6}\x{f8}-\x{ff}][-a-z0-9\x{df}-\x{f6}\x{f8}-\x{ff}]{0,11}$`)

// forms are those of fit definitions: with each number of steps, with and without a
// pivot, which is at each place, and with and without what is held. Of each word the
// letters are the Op and the Class of a step.
func forms() []string {
	return []string{"as", "bp", "as ts", "ap tf", "bs ap", "hs ks sp", "as ts bs", "ap bf tf", "as bp tf", "hs ks ap sf", "bs hs ks sp", "as ts bs hs ks sp", "hs as ks tp sf", "hs ks sp bf af", "hs as ks bs tp sf", "hs as ks bp sf tf",
		"as bs hs ks ts sp", "bs as hs ts ks sp", "hs ks as bp tf sf"}
}

// of is a definition of a form; the numbers of a step are those of its place.
func of(form string) api.Def {
	d := api.Def{Name: "x"}
	for i, word := range strings.Fields(form) {
		s := api.Step{Op: strings.IndexByte(ops, word[0]), Class: strings.IndexByte(classes, word[1]), Tries: (i + 2) % 6, Base: i%5 + 1, Cap: 2*(i%5) + 3}
		if s.Class != api.Firm {
			s.Wait = 7*(i%5) + 1
		}
		d.Steps = append(d.Steps, s)
	}
	return d
}

// tried is a definition of a form, of which each step has so many Tries.
func tried(form string, many int) api.Def {
	d := of(form)
	for i := range d.Steps {
		d.Steps[i].Tries = many
	}
	return d
}

// opsOf and classesOf are the letters of the Ops and Classes that a definition has.
func opsOf(d api.Def) string {
	return lettersOf(d.Steps, ops, func(s api.Step) int { return s.Op })
}

func classesOf(d api.Def) string {
	return lettersOf(d.Steps, classes, func(s api.Step) int { return s.Class })
}

// marksOf are the letters of marks.
func marksOf(l []int) string { return lettersOf(l, kinds, func(n int) int { return n }) }

// lettersOf are the letters of what is numbered; what has none has a question mark.
func lettersOf[T any](l []T, letters string, number func(T) int) string {
	b := make([]byte, len(l))
	for i, x := range l {
		b[i] = '?'
		if n := number(x); n >= 0 && n < len(letters) {
			b[i] = letters[n]
		}
	}
	return string(b)
}

// marks are those of some letters.
func marks(letters string) []int {
	var l []int
	for _, r := range letters {
		l = append(l, strings.IndexRune(kinds, r))
	}
	return l
}

// words are all words of so many of the letters.
func words(many int, letters string) []string {
	l := []string{""}
	for range many {
		var longer []string
		for _, word := range l {
			for _, r := range letters {
				longer = append(longer, word+string(r))
			}
		}
		l = longer
	}
	return l
}

// far are numbers that no field of a saga may be, but an Id or a Sum: among them such
// as would be in a range if they lost their upper bits or their sign.
func far() []int {
	return []int{math.MinInt, math.MinInt + 1, math.MinInt + 2, math.MinInt + 3, -1 << 62, -1 << 32, -1<<32 + 1, -256, -255, -7, -2, -1, 7, 8, 9, 16, 255, 256, 257, 258, 259, 260, 261, 1 << 16, 1<<16 + 1, 1<<31 - 1, 1 << 31,
		1<<32 - 1, 1 << 32, 1<<32 + 1, 1<<32 + 2, 1<<32 + 3, 1<<32 + 5, 1 << 62, 1<<62 + 1, math.MaxInt - 1, math.MaxInt}
}

// wantLines is the reference of what Fit asks for the Lines of a saga.
func wantLines(l []api.Line, d api.Def) bool {
	for i, x := range l {
		if !nameForm.MatchString(x.Sku) || x.N < 1 || 1<<20 < x.N || i > 0 && strings.Compare(l[i-1].Sku, x.Sku) >= 0 {
			return false
		}
	}
	return len(l) <= 4 && (len(l) > 0 || !strings.Contains(opsOf(d), "h"))
}

// wantGoing is the reference of what Fit asks of a saga that is going forward, or
// back, at its step At.
func wantGoing(s api.Saga, d api.Def, back bool) bool {
	n := len(d.Steps)
	if s.At < 0 || n <= s.At || !strings.Contains("abt", opsOf(d)[s.At:s.At+1]) || s.Tries < 0 || d.Steps[s.At].Tries < s.Tries {
		return false
	}
	ahead, letters := strings.Repeat("d", s.At), marksOf(s.Marks)
	if !back {
		return s.Why == 0 && letters == ahead+"s"+strings.Repeat("n", n-1-s.At)
	}
	rest, is := strings.CutPrefix(letters, ahead+"b")
	pivot := strings.IndexByte(classesOf(d), 'p')
	return is && strings.Trim(rest, "nux") == "" && 1 <= s.Why && s.Why <= 6 && (pivot < 0 || strings.Contains("nuxb", letters[pivot:pivot+1]))
}

// wantStands is the reference of what Fit asks of a saga by its Mode.
func wantStands(s api.Saga, d api.Def) bool {
	n := len(d.Steps)
	if len(s.Marks) != n {
		return false
	}
	switch [2]int{s.Mode, s.Was} {
	case [2]int{1, 0}, [2]int{3, 1}:
		return wantGoing(s, d, false)
	case [2]int{2, 0}, [2]int{3, 2}:
		return wantGoing(s, d, true)
	case [2]int{4, 0}:
		return s.Why == 0 && s.Tries == 0 && s.At == n && marksOf(s.Marks) == strings.Repeat("d", n)
	case [2]int{5, 0}:
		return 1 <= s.Why && s.Why <= 6 && s.Tries == 0 && s.At == 0 && strings.Trim(marksOf(s.Marks), "nux") == ""
	}
	return false
}

// wantFit is the reference of Fit for a fit definition.
func wantFit(s api.Saga, d api.Def) bool {
	return 1 <= s.Id && s.Id <= most && nameForm.MatchString(s.Ref) && s.Def == d.Name && wantLines(s.Lines, d) && 0 <= s.Sum && s.Sum <= most && wantStands(s, d)
}

// plain is a saga for a definition, of which nothing but its Mode, Was, At, Tries, Why
// and Marks is missing.
func plain(d api.Def) api.Saga {
	return api.Saga{Id: 7, Ref: "order-1", Def: d.Name, Lines: []api.Line{{Sku: "salt", N: 1}, {Sku: "tea", N: 5}}, Sum: 300}
}

// going are all sagas that are going forward, or back, for a definition; and parked
// ones while they were.
func going(d api.Def) []api.Saga {
	var l []api.Saga
	add := func(s api.Saga, mode int) {
		s.Mode = mode
		parked := s
		parked.Mode, parked.Was = api.Parked, mode
		l = append(l, s, parked)
	}
	for at, x := range d.Steps {
		if x.Op == api.OpHold || x.Op == api.OpKeep || x.Op == api.OpSend {
			continue
		}
		ahead, behind := strings.Repeat("d", at), len(d.Steps)-1-at
		for tries := range x.Tries + 1 {
			s := plain(d)
			s.At, s.Tries, s.Marks = at, tries, marks(ahead+"s"+strings.Repeat("n", behind))
			add(s, api.Running)
			if strings.Contains(classesOf(d)[:at], "p") {
				continue
			}
			for i, rest := range words(behind, "nux") {
				s.Why, s.Marks = (i+tries)%6+1, marks(ahead+"b"+rest)
				add(s, api.Undoing)
			}
		}
	}
	return l
}

// ended are all sagas that are done or undone for a definition.
func ended(d api.Def) []api.Saga {
	s := plain(d)
	s.Mode, s.At, s.Marks = api.Done, len(d.Steps), marks(strings.Repeat("d", len(d.Steps)))
	l := []api.Saga{s}
	s.Mode, s.At = api.Undone, 0
	for i, letters := range words(len(d.Steps), "nux") {
		s.Why, s.Marks = i%6+1, marks(letters)
		l = append(l, s)
	}
	return l
}

// fits are sagas that are fit for a definition: all but for their Whys, and but for
// what plain has.
func fits(d api.Def) []api.Saga { return append(going(d), ended(d)...) }

// few are some of the fit sagas for a definition: of each Mode and each Was, at each
// step at which one may stand, first those with the least numbers.
func few(d api.Def) []api.Saga {
	var l []api.Saga
	many := map[[3]int]int{}
	for _, s := range fits(d) {
		key := [3]int{s.Mode, s.Was, s.At}
		if many[key]++; many[key] < 3 || many[key]%29 == 0 && many[key] < 90 {
			l = append(l, s)
		}
	}
	return l
}

// copied is a saga that shares no memory with s.
func copied(s api.Saga) api.Saga {
	s.Lines, s.Marks = slices.Clone(s.Lines), slices.Clone(s.Marks)
	return s
}

// equal reports whether two sagas are the same, without Same; nil and empty lists are.
func equal(a, b api.Saga) bool {
	return [2]string{a.Ref, a.Def} == [2]string{b.Ref, b.Def} && slices.Equal(a.Lines, b.Lines) && slices.Equal(a.Marks, b.Marks) &&
		[7]int{a.Id, a.Sum, a.Mode, a.Was, a.At, a.Tries, a.Why} == [7]int{b.Id, b.Sum, b.Mode, b.Was, b.At, b.Tries, b.Why}
}

// isNone reports whether a saga is zero, with nil lists.
func isNone(s api.Saga) bool { return equal(s, api.Saga{}) && s.Lines == nil && s.Marks == nil }

// short is what is told of a value, which may be long.
func short(x any) string { return fmt.Sprintf("%.400s", fmt.Sprintf("%+v", x)) }

// checkFit holds Fit against what is wanted.
func checkFit(t *testing.T, s api.Saga, d api.Def, want bool) {
	t.Helper()
	if got := saga.Fit(s, d); got != want {
		t.Errorf("Fit is %t, want %t, of %s, for %s", got, want, short(s), short(d))
	}
}

// checkLike holds Fit against its reference, and reports what that says.
func checkLike(t *testing.T, s api.Saga, d api.Def) bool {
	t.Helper()
	want := wantFit(s, d)
	checkFit(t, s, d, want)
	return want
}

// TestForms checks that the definitions of the tests are fit, and are those that are
// wanted.
func TestForms(t *testing.T) {
	at := map[string]bool{}
	for _, form := range forms() {
		for _, d := range []api.Def{of(form), tried(form, 0), tried(form, 5)} {
			if !def.Fit(d) {
				t.Errorf("the definition of %q is not fit", form)
			}
		}
		at[string(rune('0'+len(of(form).Steps)))+" steps"] = true
		at["pivot at "+string(rune('1'+strings.IndexByte(classesOf(of(form)), 'p')))] = true
	}
	if len(at) != 6+7 {
		t.Errorf("there are %v", at)
	}
}

// TestFit is of P24.1: all fit sagas for definitions of each form.
func TestFit(t *testing.T) {
	for _, form := range forms() {
		for _, d := range []api.Def{of(form), tried(form, 0), tried(form, 5)} {
			all := map[int]int{}
			for _, s := range fits(d) {
				checkFit(t, s, d, true)
				all[s.Mode]++
			}
			// It waits only where a step is outside, and goes back only where no pivot is
			// ahead of such a step.
			want := 2
			if outside := strings.IndexAny(opsOf(d), "abt"); outside >= 0 {
				want += 2
				if pivot := strings.IndexByte(classesOf(d), 'p'); pivot < 0 || outside <= pivot {
					want++
				}
			}
			if len(all) != want {
				t.Errorf("of %q there are fit sagas of the Modes %v", form, all)
			}
		}
	}
}

// TestFitOfBuilt is of P24.1: sagas that are written out, for the definitions that are
// built in, and for the others of these.
func TestFitOfBuilt(t *testing.T) {
	built := def.Built()
	lines := []api.Line{{Sku: "tea", N: 9}}
	for i, l := range [][]api.Saga{
		{
			{Id: 1, Ref: "a", Def: "fulfil", Lines: lines, Mode: 1, At: 1, Tries: 3, Marks: []int{2, 1, 0, 0, 0, 0}},
			{Id: 2, Ref: "b", Def: "fulfil", Lines: lines, Sum: 5, Mode: 1, At: 5, Tries: 5, Marks: []int{2, 2, 2, 2, 2, 1}},
			{Id: 3, Ref: "c", Def: "fulfil", Lines: lines, Sum: most, Mode: 2, At: 3, Why: 5, Marks: []int{2, 2, 2, 3, 0, 0}},
			{Id: 4, Ref: "d", Def: "fulfil", Lines: lines, Mode: 2, At: 1, Why: 2, Marks: []int{2, 3, 4, 5, 0, 0}},
			{Id: 5, Ref: "e", Def: "fulfil", Lines: lines, Mode: 3, Was: 1, At: 5, Tries: 5, Marks: []int{2, 2, 2, 2, 2, 1}},
			{Id: 6, Ref: "f", Def: "fulfil", Lines: lines, Mode: 3, Was: 2, At: 1, Tries: 1, Why: 4, Marks: []int{2, 3, 0, 0, 0, 0}},
			{Id: 7, Ref: "g", Def: "fulfil", Lines: lines, Mode: 4, At: 6, Marks: []int{2, 2, 2, 2, 2, 2}},
			{Id: most, Ref: "h", Def: "fulfil", Lines: lines, Mode: 5, Why: 1, Marks: []int{5, 0, 0, 0, 0, 0}},
		},
		{
			{Id: 1, Ref: "a", Def: "pickup", Lines: lines, Mode: 1, At: 3, Tries: 2, Marks: []int{2, 2, 2, 1, 0}},
			{Id: 2, Ref: "b", Def: "pickup", Lines: lines, Mode: 2, At: 3, Why: 6, Marks: []int{2, 2, 2, 3, 0}},
			{Id: 3, Ref: "c", Def: "pickup", Lines: lines, Mode: 4, At: 5, Marks: []int{2, 2, 2, 2, 2}},
			{Id: 4, Ref: "d", Def: "pickup", Lines: lines, Mode: 5, Why: 6, Marks: []int{4, 4, 4, 4, 0}},
		},
		{
			{Id: 1, Ref: "a", Def: "prepaid", Sum: 5, Mode: 1, At: 1, Marks: []int{2, 1, 0}},
			{Id: 1, Ref: "a", Def: "prepaid", Lines: lines, Mode: 1, At: 2, Tries: 3, Marks: []int{2, 2, 1}},
			{Id: 2, Ref: "b", Def: "prepaid", Mode: 2, At: 2, Why: 3, Marks: []int{2, 2, 3}},
			{Id: 3, Ref: "c", Def: "prepaid", Mode: 3, Was: 2, At: 0, Why: 1, Marks: []int{3, 4, 5}},
			{Id: 4, Ref: "d", Def: "prepaid", Mode: 4, At: 3, Marks: []int{2, 2, 2}},
			{Id: 5, Ref: "e", Def: "prepaid", Mode: 5, Why: 2, Marks: []int{5, 0, 0}},
		},
	} {
		for _, s := range l {
			for j, d := range built {
				checkFit(t, s, d, i == j)
				// The marks alone do not tell: what goes with one does not go with others.
				s.Def = d.Name
				checkLike(t, s, d)
				s.Def = built[i].Name
			}
		}
	}
}

// TestFitOfId is of P24.1: Ids and Sums at their edges, beside them and far away.
func TestFitOfId(t *testing.T) {
	good := []int{1, 2, 3, 127, 128, 1<<31 - 1, 1 << 31, 1<<32 - 1, 1 << 32, 1<<32 + 1, 1 << 39, most - 257, most - 256, most - 1, most}
	bad := []int{-1, -2, -128, -1 << 31, -1 << 32, 1 - most, -most, -most - 1, -1 << 62, math.MinInt, math.MinInt + 1, math.MinInt + 2, most + 1, most + 2, most + 1<<32, 2 * most, 1 << 48, 1 << 62, 1<<62 + 1, math.MaxInt - 1, math.MaxInt}
	for _, form := range forms() {
		for _, s := range few(of(form)) {
			id, sum := copied(s), copied(s)
			for _, n := range append(good, 0) {
				id.Id, sum.Sum = n, n
				checkFit(t, id, of(form), n > 0)
				checkFit(t, sum, of(form), true)
			}
			for _, n := range bad {
				id.Id, sum.Sum = n, n
				checkFit(t, id, of(form), false)
				checkFit(t, sum, of(form), false)
			}
		}
	}
}

// TestFitOfRef is of P24.1: Refs that are names, and such as are none, for each reason.
func TestFitOfRef(t *testing.T) {
	for _, form := range forms() {
		for _, s := range few(of(form)) {
			for _, name := range []string{"x", "0", "00", "a-", "a--", "a-b", "abcdefghijkl", "ß", "ä", "ø", "ÿ", strings.Repeat("ä", 12), "fulfil", "running", s.Def} {
				s.Ref = name
				checkFit(t, s, of(form), true)
			}
			for _, name := range badNames() {
				s.Ref = name
				checkFit(t, s, of(form), false)
			}
		}
	}
	d := of("as ts bs")
	for b := range 256 {
		for _, name := range []string{string([]byte{byte(b)}), "a" + string([]byte{byte(b)}), string([]byte{byte(b)}) + "a", string([]byte{0xc3, byte(b)})} {
			s := few(d)[0]
			s.Ref = name
			checkFit(t, s, d, nameForm.MatchString(name))
		}
	}
	for many := range 20 {
		s := few(d)[0]
		s.Ref = strings.Repeat("ÿ", many)
		checkFit(t, s, d, many >= 1 && many <= 12)
	}
}

// badNames are no names.
func badNames() []string {
	return []string{"", "-", "-a", " ", "a ", " a", "a b", "a:", ",", "/", "a.b", "a_b", "a\x00", "\x00", "a\n", "÷", "×", "Ā", "€", "𝔞", "A", "aB", "Order", "Ä", "aÞ", "\xff", "a\xff", "\xc3", "\xa4", "\xed\xa0\x80", "\ufffd",
		"abcdefghijklm", strings.Repeat("ä", 13), strings.Repeat("a", 48), strings.Repeat("a", 49), strings.Repeat("a", 1<<16)}
}

// TestFitOfDef is of P24.1: a Def that is the Name of the definition, and one that is
// another, or none.
func TestFitOfDef(t *testing.T) {
	names := []string{"x", "y", "xx", "x-", "fulfil", "pickup", "prepaid", "ä", "abcdefghijkl", "a", "0"}
	for _, form := range forms() {
		for _, s := range few(of(form)) {
			d := of(form)
			for _, d.Name = range names {
				for _, s.Def = range append(names, badNames()...) {
					checkFit(t, s, d, s.Def == d.Name)
				}
			}
			// That they are the same does not do: it must be a name.
			for _, d.Name = range badNames() {
				s.Def = d.Name
				checkFit(t, s, d, false)
			}
		}
	}
}

// TestFitOfLines is of P24.1: Lines that are fit and such as are not, for each reason;
// and none, which is fit only where nothing is held.
func TestFitOfLines(t *testing.T) {
	line := func(sku string, n int) api.Line { return api.Line{Sku: sku, N: n} }
	four := []api.Line{line("a", 1), line("b", 2), line("c", 3), line("d", 4)}
	good := [][]api.Line{four[:1], four[:2], four[:3], four, {line("tea", 1<<20)}, {line("a", 1<<20), line("ÿ", 1<<20)}, {line("abcdefghijkl", 1)}, {line("a", 1), line("a-", 1), line("aa", 1)}, {line("z", 1), line("ß", 1)}}
	bad := [][]api.Line{append(slices.Clone(four), line("e", 5)), slices.Repeat(four, 2), {line("b", 1), line("a", 1)}, {line("a", 1), line("a", 1)}, {line("a", 1), line("c", 1), line("b", 1)}, {{}}, make([]api.Line, 4),
		{line("a", 0)}, {line("a", -1)}, {line("a", 1<<20+1)}, {line("a", 1), line("b", 0)}, {line("a", math.MinInt)}, {line("a", math.MaxInt)}, {line("a", 1<<32+1)}, {line("ß", 1), line("z", 1)}, slices.Repeat(four, 1<<14)}
	for _, name := range badNames() {
		bad = append(bad, []api.Line{line(name, 1)}, []api.Line{line(name, 1), line("ÿÿ", 1)})
	}
	for _, form := range forms() {
		for _, s := range few(of(form)) {
			for _, s.Lines = range good {
				checkFit(t, s, of(form), true)
			}
			for _, s.Lines = range bad {
				checkFit(t, s, of(form), false)
			}
			for _, s.Lines = range [][]api.Line{nil, {}} {
				checkFit(t, s, of(form), !strings.Contains(form, "h"))
			}
		}
	}
}

// badDefs are definitions that are not fit, for each reason, of which some have the
// Ops and Classes of the form.
func badDefs(form string) []api.Def {
	d := of(form)
	l := []api.Def{{}, {Name: "x"}, {Steps: d.Steps}, {Name: "X", Steps: d.Steps}, {Name: "x", Steps: make([]api.Step, len(d.Steps))}, {Name: "x", Steps: append(slices.Clone(d.Steps), d.Steps...)}}
	for at := range d.Steps {
		for _, change := range []func(s *api.Step){
			func(s *api.Step) { s.Op = 0 }, func(s *api.Step) { s.Op = 7 }, func(s *api.Step) { s.Class = 0 }, func(s *api.Step) { s.Class = 4 }, func(s *api.Step) { s.Tries = 6 }, func(s *api.Step) { s.Tries = 1 << 32 },
			func(s *api.Step) { s.Base = 0 }, func(s *api.Step) { s.Base = s.Cap + 1 }, func(s *api.Step) { s.Cap = 33 }, func(s *api.Step) { s.Wait = -1 }, func(s *api.Step) { s.Wait = 101 },
		} {
			changed := api.Def{Name: "x", Steps: slices.Clone(d.Steps)}
			change(&changed.Steps[at])
			l = append(l, changed)
		}
	}
	return l
}

// TestFitOfBadDef is of P24.1: sagas that would be fit, for definitions that are not.
func TestFitOfBadDef(t *testing.T) {
	for _, form := range forms() {
		for _, d := range badDefs(form) {
			for _, s := range append(few(of(form)), api.Saga{}) {
				checkFit(t, s, d, false)
				s.Def = d.Name
				checkFit(t, s, d, false)
				s.Marks = append(s.Marks[:len(s.Marks):len(s.Marks)], s.Marks...)
				checkFit(t, s, d, false)
				if s.At = len(d.Steps); s.Mode == api.Done {
					checkFit(t, s, d, false)
				}
			}
		}
	}
	for _, form := range []string{"hs", "as as", "as bs as", "ts", "ts as", "ap bs", "ap bp", "af", "as tf", "hs ks", "ks hs sp", "hs sp", "ks sp", "bs as ts hs ks sp af", "as bs as bs as bs as"} {
		for _, s := range fits(of(form)) {
			checkFit(t, s, of(form), false)
		}
	}
	// No steps and no marks go together, but that is no definition.
	for _, mode := range []int{0, 1, 2, 3, 4, 5, 6} {
		checkFit(t, api.Saga{Id: 1, Ref: "a", Def: "x", Mode: mode, Why: mode / 5}, api.Def{Name: "x"}, false)
	}
}

// TestFitChangesNothing is of P24.1: the saga and the definition stay as they are.
func TestFitChangesNothing(t *testing.T) {
	for _, form := range forms() {
		for _, s := range few(of(form)) {
			d, was := of(form), copied(s)
			for range 2 {
				checkFit(t, s, d, true)
			}
			if !equal(s, was) || !def.Same(d, of(form)) {
				t.Errorf("Fit left %s and %s of %s", short(s), short(d), short(was))
			}
		}
	}
}
