package def_test

import (
	"math"
	"regexp"
	"slices"
	"strings"
	"sync"
	"testing"

	"drayman/api"
	"drayman/def"
)

// The letters of Ops and of Classes, each at its number.
const (
	ops     = "?hakbst"
	classes = "?spf"
)

// pairs are the Ops and the Classes that go together in a step, and kinds are the
// same one by one.
const pairs = "hs as ap af ks bs bp bf sp sf ts tp tf"

func kinds() []string { return strings.Fields(pairs) }

// nameForm is the form of a name, as chapter 2 defines it.
var nameForm = regexp.MustCompile(`^[a-z0-9\x{df}-\x{f6}\x{f8}-\x{ff}][-a-z0-9\x{df}-\x{f6}\x{f8}-\x{ff}]{0,11}$`)

// classForm is how Classes stand behind each other: what is soft, and then perhaps
// one pivot, and behind it what is firm.
var classForm = regexp.MustCompile(`^s*(pf*)?$`)

// goodNames are names.
func goodNames() []string {
	return []string{"x", "0", "00", "9", "a-", "a--", "a-b", "fulfil", "pickup", "abcdefghijkl", "z", "hold", "soft", "ß", "ä", "ßa", "ø", "ÿ", strings.Repeat("ä", 12), strings.Repeat("ÿ", 12)}
}

// badNames are no names.
func badNames() []string {
	return []string{"", "-", "-a", " ", "a ", " a", "a b", "a:", "a,", ":", ",", "/", "a/b", "a.b", "a_b", "a\x00", "\x00", "a\n", "÷", "×", "Ā", "€", "𝔞", "A", "aB", "Fulfil", "FULFIL", "Ä", "aÞ",
		"\xff", "a\xff", "\xc3", "a\xc3", "\xa4", "\xc0\xa1", "\xed\xa0\x80", "\ufffd", "\ufeffa", "abcdefghijklm", "ABCDEFGHIJKLM",
		strings.Repeat("ä", 13), strings.Repeat("Ä", 13), strings.Repeat("a", 48), strings.Repeat("a", 49), strings.Repeat("a", 1<<16)}
}

// stepped are fit steps of a form: of each word the letters are its Op and its
// Class, and its numbers are those of its place.
func stepped(form string) []api.Step {
	var l []api.Step
	for i, word := range strings.Fields(form) {
		s := api.Step{Op: strings.IndexByte(ops, word[0]), Class: strings.IndexByte(classes, word[1]), Tries: i % 6, Base: i%5 + 1, Cap: 2*(i%5) + 3}
		if s.Class != api.Firm {
			s.Wait = 7*(i%5) + 1
		}
		l = append(l, s)
	}
	return l
}

// of is a definition of a form.
func of(form string) api.Def { return api.Def{Name: "x", Steps: stepped(form)} }

// shape is the form of steps that have Ops and Classes.
func shape(l []api.Step) string {
	var words []string
	for _, s := range l {
		words = append(words, ops[s.Op:s.Op+1]+classes[s.Class:s.Class+1])
	}
	return strings.Join(words, " ")
}

// column has one letter of each word of a form.
func column(form string, at int) string {
	s := ""
	for _, word := range strings.Fields(form) {
		s += word[at : at+1]
	}
	return s
}

// only is what a text has of some letters.
func only(s, letters string) string {
	return strings.Map(func(r rune) rune {
		if strings.ContainsRune(letters, r) {
			return r
		}
		return -1
	}, s)
}

// wantForm is the reference of Fit for a form of fit steps.
func wantForm(form string) bool {
	o := column(form, 0)
	for _, r := range o {
		if strings.Count(o, string(r)) > 1 {
			return false
		}
	}
	return o != "" && len(o) <= 6 && classForm.MatchString(column(form, 1)) &&
		slices.Contains([]string{"", "hks"}, only(o, "hks")) && slices.Contains([]string{"", "a", "at"}, only(o, "at"))
}

// wantStep is the reference for a fit step.
func wantStep(s api.Step) bool {
	if s.Op < 1 || 6 < s.Op || s.Class < 1 || 3 < s.Class || !strings.Contains(pairs, shape([]api.Step{s})) {
		return false
	}
	longest := 100
	if s.Class == 3 {
		longest = 0
	}
	return 0 <= s.Tries && s.Tries <= 5 && 1 <= s.Base && s.Base <= s.Cap && s.Cap <= 32 && 0 <= s.Wait && s.Wait <= longest
}

// wantFit is the reference of Fit.
func wantFit(d api.Def) bool {
	if len(d.Steps) < 1 || 6 < len(d.Steps) || !nameForm.MatchString(d.Name) {
		return false
	}
	for _, s := range d.Steps {
		if !wantStep(s) {
			return false
		}
	}
	return wantForm(shape(d.Steps))
}

// sequences are the forms of so many steps, each of which is of one of the words:
// all of them.
func sequences(many int, words []string) []string {
	l := []string{""}
	for range many {
		var longer []string
		for _, form := range l {
			for _, word := range words {
				longer = append(longer, strings.TrimSpace(form+" "+word))
			}
		}
		l = longer
	}
	return l
}

// forms are the forms of all fit definitions, worked out once.
var forms = sync.OnceValue(func() []string {
	var l []string
	var grow func(form string)
	grow = func(form string) {
		if wantForm(form) {
			l = append(l, form)
		}
		for _, word := range kinds() {
			if !strings.Contains(column(form, 0), word[:1]) {
				grow(strings.TrimSpace(form + " " + word))
			}
		}
	}
	grow("")
	return l
})

// some are forms of fit definitions: of each number of steps, and with each Op and
// each Class.
func some() []string {
	return []string{"as", "bp", "as ts", "ap tf", "bs ap", "hs ks sp", "as ts bs", "ap bf tf", "hs ks ap sf", "hs as ks tp sf", "hs ks sp bf af", "hs as ks bp sf tf", "as bs hs ks ts sp", "bs as hs ts ks sp"}
}

// change is a copy of a definition in which a field of a step is set to a number.
func change(d api.Def, at int, field func(s *api.Step) *int, n int) api.Def {
	d.Steps = slices.Clone(d.Steps)
	*field(&d.Steps[at]) = n
	return d
}

// called is a definition with another Name.
func called(name string, d api.Def) api.Def {
	d.Name = name
	return d
}

// The fields of a step.
func op(s *api.Step) *int    { return &s.Op }
func class(s *api.Step) *int { return &s.Class }
func tries(s *api.Step) *int { return &s.Tries }
func base(s *api.Step) *int  { return &s.Base }
func limit(s *api.Step) *int { return &s.Cap }
func wait(s *api.Step) *int  { return &s.Wait }

// fields are all fields of a step, in their order.
func fields() []func(s *api.Step) *int {
	return []func(s *api.Step) *int{op, class, tries, base, limit, wait}
}

// edges are definitions of a form whose steps have the least numbers, the
// greatest, and others.
func edges(form string) []api.Def {
	least, greatest := of(form), of(form)
	for i, s := range least.Steps {
		least.Steps[i] = api.Step{Op: s.Op, Class: s.Class, Base: 1, Cap: 1}
		greatest.Steps[i] = api.Step{Op: s.Op, Class: s.Class, Tries: 5, Base: 32, Cap: 32}
		if s.Class != api.Firm {
			greatest.Steps[i].Wait = 100
		}
	}
	return []api.Def{of(form), called("abcdefghijkl", least), called(strings.Repeat("ÿ", 12), greatest)}
}

// fits are fit definitions: of each form, with each kind of numbers, and with each
// name.
func fits() []api.Def {
	var l []api.Def
	for _, form := range forms() {
		l = append(l, edges(form)...)
	}
	for _, form := range some() {
		for _, name := range goodNames() {
			l = append(l, called(name, of(form)))
		}
	}
	return l
}

// far are numbers that nothing of a step may be.
func far() []int {
	return []int{math.MinInt, math.MinInt + 1, math.MinInt + 2, -1 << 62, -1 << 32, -1<<32 + 1, -256, -7, -1, 101, 256, 257, 258, 1<<31 - 1, 1 << 31, 1<<32 - 1, 1 << 32, 1<<32 + 1, 1<<32 + 2, 1<<32 + 6,
		1 << 62, math.MaxInt - 1, math.MaxInt}
}

// badSteps are definitions in which the step at a place is not fit, for each
// reason.
func badSteps(d api.Def, at int) []api.Def {
	l := []api.Def{change(d, at, op, 0), change(d, at, op, 7), change(d, at, class, 0), change(d, at, class, 4), change(d, at, tries, 6), change(d, at, base, 0),
		change(d, at, base, d.Steps[at].Cap+1), change(d, at, limit, 33), change(d, at, limit, d.Steps[at].Base-1)}
	for _, field := range fields() {
		for _, n := range far() {
			l = append(l, change(d, at, field, n))
		}
	}
	both := change(d, at, base, 33)
	l = append(l, change(both, at, limit, 33))
	zero := change(d, at, op, 0)
	zero.Steps[at] = api.Step{}
	l = append(l, zero)
	switch s := d.Steps[at]; {
	case s.Class == api.Firm:
		l = append(l, change(d, at, wait, 1), change(d, at, wait, 100))
	case s.Op == api.OpSend:
		l = append(l, change(d, at, class, api.Soft))
	case s.Op == api.OpHold, s.Op == api.OpKeep:
		l = append(l, change(d, at, class, api.Pivot), change(change(d, at, class, api.Firm), at, wait, 0))
	}
	return l
}

// badForms are forms that no fit definition has, though their steps are fit, by
// the reason.
func badForms() map[string][]string {
	return map[string][]string{
		"none":         {""},
		"seven":        {"hs as ks bp sf tf af", "as bs as bs as bs as", "hs as ks bs ts sp hs", "bs bs bs bs bs bs bs", "bp bf bf bf bf bf bf"},
		"twice":        {"as as", "bs bs", "bs bp", "bp bf", "ap af", "as bs as", "as bp af", "as as ts", "as ts as", "as ts ts", "as ts bs ts", "as ts ap", "bs as ts bp", "hs ks sp sf", "hs hs ks sp", "hs ks ks sp", "hs as ks ks sp", "hs as ks bs sp bf", "hs ks bs sp bf sf", "sp sf", "sp bf sf", "hs as ks bs as sp", "as bs bs hs ks sp"},
		"decreasing":   {"ap bs", "bp as", "ap ts", "as bp ts", "ap bs tf", "as tp bs", "ap hs ks bs sf tf", "hs ap ks bs sf tf", "hs ks ap bs sf tf", "hs as ks sp bs tf", "hs as ks bs sp ts", "hs ks sp bf as", "ap hs ks sf", "ap hs ks", "bp af ts", "ap tf bs", "hs ks ap sf tf bs"},
		"behind pivot": {"ap bf ts", "bp af hs ks sf", "ap hs ks sf tf", "bp hs ks sf", "hs bp ks sf"},
		"two pivots":   {"ap bp", "ap tp", "bp ap", "as bp tp", "ap bp tf", "hs ks ap sp", "hs ks sp ap", "hs as ks bp sp tf", "hs as ks bs sp tp", "hs ks ap bp sf tf", "ap bp tp"},
		"pivot behind": {"ap bf tp", "ap tf bp", "hs ks ap sf bp", "hs ks sp bf ap"},
		"no pivot":     {"af", "bf", "bs af", "as tf", "as bf", "as bf tf", "hs ks sf", "hs as ks bs sf tf", "hs as ks ts bs sf", "af bf tf", "bf af tf", "as bs tf"},
		"firm ahead":   {"af bp", "bf ap", "af tp", "as bf tp", "hs as ks bf sp tf", "hs as ks bs sf tp", "hs ks sf bp"},
		"one of three": {"hs", "ks", "sp", "hs as", "as hs", "as ks", "ks bp", "as sp", "as bs sp", "bp sf", "hs as ts", "as ts ks"},
		"two of three": {"hs sf", "ks sf", "hs ks", "hs sp", "ks sp", "ks hs", "hs as ks", "hs as ks bp", "hs bs sp", "as hs bp sf", "ks ap sf", "hs as ks ts bs", "hs bp sf"},
		// What is sent is not soft, so with it ahead the Classes decrease, too: see several.
		"wrong order": {"ks hs sp", "ks as hs sp", "as ks bs hs sp", "ks hs as bp sf tf", "bs ks as hs ts sp"},
		"take alone":  {"ts", "tp", "bs ts", "ts bs", "bs tp", "tp bf", "hs ks ts sp", "hs ks sp tf", "hs ts ks bp sf"},
		"take ahead":  {"ts as", "tp af", "ts ap", "ts bs as", "ts bs ap", "bs ts as", "bp tf af", "hs ts ks as bs sp", "hs ks sp tf af", "hs ts as ks bp sf"},
		"several":     {"ts ts", "sp ks hs", "sf ks hs", "tf af", "af as", "hs hs", "ks ks", "sf sp", "sp hs ks", "hs sp ks", "ks sp hs", "tf tf tf tf tf tf tf"},
	}
}

// unfit are definitions that are not fit, for each reason.
func unfit() []api.Def {
	l := []api.Def{{}, {Name: "x"}, {Name: "x", Steps: []api.Step{}}, {Name: "x", Steps: []api.Step{{}}}, {Steps: stepped("as")}, {Name: "x", Steps: make([]api.Step, 6)}, {Name: "x", Steps: make([]api.Step, 7)},
		{Name: "x", Steps: slices.Repeat(stepped("as"), 1<<12)}, called("", of("as ts")), called("X", of("as ts"))}
	for _, list := range badForms() {
		for _, form := range list {
			l = append(l, edges(form)...)
		}
	}
	for _, form := range some() {
		for _, name := range badNames() {
			l = append(l, called(name, of(form)))
		}
		for at := range of(form).Steps {
			l = append(l, badSteps(of(form), at)...)
		}
	}
	return l
}

// checkFit holds Fit against what is wanted, and against its reference.
func checkFit(t *testing.T, d api.Def, want bool) {
	t.Helper()
	if got := def.Fit(d); got != want || got != wantFit(d) {
		t.Errorf("Fit is %t, the reference %t, of %.300q with %d steps: %.600v", got, wantFit(d), d.Name, len(d.Steps), d.Steps)
	}
}

// TestFit is of P21.1: definitions of each form that there is, with each name, and
// with numbers at their edges.
func TestFit(t *testing.T) {
	for _, d := range fits() {
		checkFit(t, d, true)
	}
	counts := map[int]int{}
	for _, form := range forms() {
		counts[len(strings.Fields(form))]++
	}
	// Counted by hand for one and two steps: a, b with s, p, and each two of them.
	for many, want := range []int{0, 4, 9, 13, 10, 45, 105} {
		if counts[many] != want {
			t.Errorf("%d forms have %d steps", counts[many], many)
		}
	}
	for _, form := range some() {
		checkFit(t, of(form), true)
	}
}

// TestFitOfUnfit is of P21.1: definitions that are not fit, for each reason.
func TestFitOfUnfit(t *testing.T) {
	for _, d := range unfit() {
		checkFit(t, d, false)
	}
	for _, many := range []int{7, 8, 12, 13, 255, 256, 257, 262, 1 << 16, 1<<16 + 6} {
		checkFit(t, api.Def{Name: "x", Steps: slices.Repeat(stepped("bs"), many)}, false)
		l := slices.Repeat(stepped("hs as ks bp sf tf"), many/6+1)
		checkFit(t, api.Def{Name: "x", Steps: l[:many]}, false)
	}
}

// TestFitOfName is of P21.1: names, and what is none, for each reason.
func TestFitOfName(t *testing.T) {
	for _, form := range forms() {
		for _, name := range goodNames() {
			checkFit(t, called(name, of(form)), true)
		}
		for _, name := range badNames()[:40] {
			checkFit(t, called(name, of(form)), false)
		}
	}
	for b := range 256 {
		for _, name := range []string{string([]byte{byte(b)}), "a" + string([]byte{byte(b)}), string([]byte{byte(b)}) + "a", string([]byte{0xc3, byte(b)})} {
			checkFit(t, called(name, of("as ts")), nameForm.MatchString(name))
		}
	}
	for many := range 20 {
		checkFit(t, called(strings.Repeat("a", many), of("bs")), many >= 1 && many <= 12)
		checkFit(t, called(strings.Repeat("ä", many), of("bs")), many >= 1 && many <= 12)
	}
}

// TestFitOfSteps is of P21.1: a step that is not fit at each place of each form.
func TestFitOfSteps(t *testing.T) {
	for _, form := range forms() {
		for _, d := range edges(form) {
			for at := range d.Steps {
				for _, bad := range badSteps(d, at) {
					checkFit(t, bad, false)
				}
			}
		}
	}
}

// TestFitOfSequences is of P21.1: all sequences of up to four fit steps, also of
// Ops that occur twice.
func TestFitOfSequences(t *testing.T) {
	fit := 0
	for many := range 5 {
		for _, form := range sequences(many, kinds()) {
			checkFit(t, of(form), wantForm(form))
			if def.Fit(of(form)) {
				fit++
			}
		}
	}
	if fit != 4+9+13+10 {
		t.Errorf("fit are %d", fit)
	}
}

// TestFitOfOrders is of P21.1: five and six of the Ops in each order, with each of
// their Classes.
func TestFitOfOrders(t *testing.T) {
	fit := map[int]int{}
	var grow func(form string)
	grow = func(form string) {
		if many := len(strings.Fields(form)); many >= 5 {
			checkFit(t, of(form), wantForm(form))
			if def.Fit(of(form)) {
				fit[many]++
			}
		}
		for _, word := range kinds() {
			if !strings.Contains(column(form, 0), word[:1]) {
				grow(strings.TrimSpace(form + " " + word))
			}
		}
	}
	grow("")
	if fit[5] != 45 || fit[6] != 105 {
		t.Errorf("fit are %v", fit)
	}
}

// TestFitOfOneMore is of P21.1: each step put at each place of each form, so that
// an Op occurs twice, next to each other or apart, or that there are seven.
func TestFitOfOneMore(t *testing.T) {
	for _, form := range forms() {
		words := strings.Fields(form)
		for at := range len(words) + 1 {
			for _, word := range kinds() {
				more := strings.Join(slices.Insert(slices.Clone(words), at, word), " ")
				checkFit(t, of(more), wantForm(more))
				if strings.Contains(column(form, 0), word[:1]) || len(words) == 6 {
					checkFit(t, of(more), false)
				}
			}
		}
	}
}

// TestFitOfOneOther is of P21.1: each step in place of each of each form, one taken
// away, and two in each other's place.
func TestFitOfOneOther(t *testing.T) {
	for _, form := range forms() {
		words := strings.Fields(form)
		for at := range words {
			for _, word := range kinds() {
				other := slices.Clone(words)
				other[at] = word
				checkFit(t, of(strings.Join(other, " ")), wantForm(strings.Join(other, " ")))
			}
			less := strings.Join(slices.Delete(slices.Clone(words), at, at+1), " ")
			checkFit(t, of(less), wantForm(less))
			for with := range at {
				swapped := slices.Clone(words)
				swapped[at], swapped[with] = swapped[with], swapped[at]
				checkFit(t, of(strings.Join(swapped, " ")), wantForm(strings.Join(swapped, " ")))
			}
		}
	}
}

// TestFitBehindPivot is of P21.5: in a fit definition of any form no step behind
// the pivot holds or keeps, and each must be done.
func TestFitBehindPivot(t *testing.T) {
	behind := 0
	for _, d := range fits() {
		at := def.Pivot(d)
		if at < 0 {
			continue
		}
		for _, s := range d.Steps[at+1:] {
			behind++
			if s.Op == api.OpHold || s.Op == api.OpKeep || s.Class != api.Firm {
				t.Errorf("behind the pivot of %v stands %+v", d, s)
			}
		}
	}
	if behind < 100 {
		t.Errorf("behind pivots are %d steps", behind)
	}
	// Each fit step behind each pivot, with whatever a definition needs ahead of it.
	for _, ahead := range []string{"ap", "bp", "as tp", "hs ks sp", "hs as ks bp", "hs as ks tp"} {
		for _, form := range append(sequences(1, kinds()), sequences(2, kinds())...) {
			d := of(ahead + " " + form)
			if words := " " + form; def.Fit(d) && (strings.Contains(words, " h") || strings.Contains(words, " k") || strings.Contains(words, "s ") || strings.HasSuffix(words, "s") || strings.Contains(words, "p")) {
				t.Errorf("%s %s is fit", ahead, form)
			}
		}
	}
}

// TestFitLeaves is of P21.1: what is handed in is as it was, also behind the end of
// the Steps.
func TestFitLeaves(t *testing.T) {
	for _, d := range append(fits()[:300], unfit()...) {
		was := called(d.Name, api.Def{Steps: slices.Clone(d.Steps)})
		all := append(slices.Clone(d.Steps), stepped("as ts bs")...)
		d.Steps = all[:len(d.Steps)]
		def.Fit(d)
		def.Text(d)
		def.Put(d)
		def.Place(d, api.OpTake)
		def.Pivot(d)
		def.Same(d, was)
		if !slices.Equal(all, append(was.Steps, stepped("as ts bs")...)) {
			t.Errorf("%.300v has become %.300v", was, d)
		}
	}
}
