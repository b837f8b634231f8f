package saga_test

import (
	"slices"
	"strings"
	"testing"

	"drayman/api"
	"drayman/saga"
)

// modes are the numbers of Modes, and such as are none.
func modes() []int { return append(far(), 0, 1, 2, 3, 4, 5, 6) }

// isDone reports whether a saga has a mark at a place, and it is done.
func isDone(s api.Saga, place int) bool {
	for i, letter := range marksOf(s.Marks) {
		if i == place {
			return letter == 'd'
		}
	}
	return false
}

// wantBound is the reference of Bound.
func wantBound(s api.Saga, d api.Def) bool { return isDone(s, strings.IndexByte(classesOf(d), 'p')) }

// wantBetween is the reference of Holds and Keeps, of two Ops by their letters.
func wantBetween(s api.Saga, d api.Def, former, latter string) bool {
	ops := opsOf(d)
	return strings.Contains(ops, former) && strings.Contains(ops, latter) && isDone(s, strings.Index(ops, former)) && !isDone(s, strings.Index(ops, latter))
}

// checkLive holds Live and Back against what is wanted.
func checkLive(t *testing.T, s api.Saga, live, back bool) {
	t.Helper()
	if saga.Live(s) != live || saga.Back(s) != back {
		t.Errorf("Live is %t, want %t, and Back is %t, want %t, of %s", saga.Live(s), live, saga.Back(s), back, short(s))
	}
}

// checkLook holds Bound, Holds and Keeps against what is wanted.
func checkLook(t *testing.T, s api.Saga, d api.Def, bound, holds, keeps bool) {
	t.Helper()
	if got, want := [3]bool{saga.Bound(s, d), saga.Holds(s, d), saga.Keeps(s, d)}, [3]bool{bound, holds, keeps}; got != want {
		t.Errorf("Bound, Holds and Keeps are %v, want %v, of %s, for %s", got, want, short(s), short(d))
	}
}

// checkLookLike holds the same against their references.
func checkLookLike(t *testing.T, s api.Saga, d api.Def) {
	t.Helper()
	checkLook(t, s, d, wantBound(s, d), wantBetween(s, d, "h", "k"), wantBetween(s, d, "k", "s"))
}

// TestLive is of P24.1: Live and Back of each Mode and each Was, also of those that are
// none, whatever else the saga is.
func TestLive(t *testing.T) {
	others := []api.Saga{{}, {Id: 9, Ref: "a", Def: "x", Sum: 3, At: 2, Tries: 2, Why: 2, Marks: []int{2, 3, 2, 1}}, few(of("as ts bs"))[0], few(of("hs as ks bp sf tf"))[3]}
	for _, mode := range modes() {
		for _, was := range modes() {
			live := mode == 1 || mode == 2 || mode == 3
			back := mode == 2 || mode == 3 && was == 2
			for _, s := range others {
				s.Mode, s.Was = mode, was
				checkLive(t, s, live, back)
			}
		}
	}
	// Whatever else is Undoing's number, or Running's.
	for n := range 7 {
		checkLive(t, api.Saga{Id: n, Sum: n, At: n, Tries: n, Why: n, Was: n, Marks: []int{n, n}}, false, false)
		checkLive(t, api.Saga{Id: n, Sum: n, At: n, Tries: n, Why: n, Mode: 3, Marks: []int{n, n}}, true, false)
		checkLive(t, api.Saga{Id: n, Sum: n, At: n, Tries: n, Why: n, Mode: 1, Was: 2, Marks: []int{n, n}}, true, false)
	}
}

// TestLook is of P24.1: Bound, Holds and Keeps of sagas that are written out.
func TestLook(t *testing.T) {
	for _, c := range []struct {
		form, marks         string
		bound, holds, keeps bool
	}{
		{"as ts bs", "dsn", false, false, false}, {"as ts bs", "ddd", false, false, false}, {"bp", "s", false, false, false}, {"bp", "d", true, false, false}, {"bp", "b", false, false, false}, {"bp", "u", false, false, false},
		{"bp", "n", false, false, false}, {"bp", "x", false, false, false}, {"bp", "?", false, false, false}, {"bp", "", false, false, false}, {"bp", "dd", true, false, false}, {"ap tf", "ds", true, false, false}, {"ap tf", "sd", false, false, false},
		{"ap tf", "d", true, false, false}, {"bs ap", "d", false, false, false}, {"bs ap", "sd", true, false, false},
		{"hs as ks bp sf tf", "nnnnnn", false, false, false}, {"hs as ks bp sf tf", "dsnnnn", false, true, false}, {"hs as ks bp sf tf", "ddsnnn", false, true, false}, {"hs as ks bp sf tf", "dddsnn", false, false, true},
		{"hs as ks bp sf tf", "ddddsn", true, false, true}, {"hs as ks bp sf tf", "ddddds", true, false, false}, {"hs as ks bp sf tf", "dddddd", true, false, false}, {"hs as ks bp sf tf", "dddbnn", false, false, true},
		{"hs as ks bp sf tf", "dbuunn", false, true, false}, {"hs as ks bp sf tf", "ubuunn", false, false, false}, {"hs as ks bp sf tf", "uuuunn", false, false, false}, {"hs as ks bp sf tf", "xnnnnn", false, false, false},
		{"hs as ks bp sf tf", "", false, false, false}, {"hs as ks bp sf tf", "d", false, true, false}, {"hs as ks bp sf tf", "dd", false, true, false}, {"hs as ks bp sf tf", "ddd", false, false, true}, {"hs as ks bp sf tf", "dddd", true, false, true},
		{"hs as ks bp sf tf", "ddddd", true, false, false}, {"hs as ks bp sf tf", "nndnnn", false, false, true}, {"hs as ks bp sf tf", "dnnndn", false, true, false}, {"hs as ks bp sf tf", "nnnndn", false, false, false},
		{"hs as ks bp sf tf", "ddnddd", true, true, false}, {"hs as ks bp sf tf", "dddddddd", true, false, false}, {"hs as ks tp sf", "ddddn", true, false, true}, {"hs ks sp", "ddd", true, false, false}, {"hs ks sp", "ddb", false, false, true},
		// One of the two steps alone does not do.
		{"hs", "d", false, false, false}, {"ks", "d", false, false, false}, {"sp", "d", true, false, false}, {"hs sp", "dn", false, false, false}, {"hs ks", "dn", false, true, false}, {"hs ks", "dd", false, false, false},
		{"ks sp", "dn", false, false, true}, {"ks sp", "dd", true, false, false}, {"hs as sp", "ddd", true, false, false}, {"ks hs sp", "ndn", false, true, false}, {"ks hs sp", "dnn", false, false, true}, {"sp ks hs", "nd", false, false, true},
		{"sp ks hs", "ndd", false, false, true}, {"sp ks hs", "dnd", true, true, false}, {"sp ks hs", "ddd", true, false, false}, {"", "", false, false, false}, {"", "ddd", false, false, false},
	} {
		s := plain(of(c.form))
		s.Marks = marks(c.marks)
		for _, mode := range []int{0, 1, 2, 3, 4, 5, 6} {
			s.Mode = mode
			checkLook(t, s, of(c.form), c.bound, c.holds, c.keeps)
			checkLookLike(t, s, of(c.form))
		}
	}
}

// TestLookOfMarks is of P24.1: marks of each kind and of none at each place, and up to
// two marks more or less than there are steps.
func TestLookOfMarks(t *testing.T) {
	for _, form := range []string{"bp", "as ts", "as bp", "bp af", "hs ks sp", "hs ks ap sf", "hs bp ks sf", "hs ks", "ks sp", "as bs"} {
		d := of(form)
		for many := max(len(d.Steps)-2, 0); many <= min(len(d.Steps)+2, 5); many++ {
			for _, word := range words(many, kinds+"?") {
				checkLookLike(t, api.Saga{Marks: marks(word)}, d)
			}
		}
	}
	for _, form := range forms() {
		d := of(form)
		for _, s := range few(d) {
			for many := range s.Marks {
				cut := s
				cut.Marks = s.Marks[:many]
				checkLookLike(t, cut, d)
				for _, mark := range append(far(), 0, 1, 2, 3, 4, 5, 6) {
					checkLookLike(t, marked(s, many, mark), d)
				}
			}
			long := s
			long.Marks = append(slices.Clone(s.Marks), slices.Repeat([]int{2}, 1<<12)...)
			checkLookLike(t, long, d)
			checkLookLike(t, s, api.Def{})
			checkLookLike(t, s, api.Def{Name: "y", Steps: make([]api.Step, 9)})
		}
	}
}

// TestLookOfOthers is of P24.1: whether a saga is bound, or holds or keeps, is asked of
// its marks alone, and of the Ops and Classes of the steps.
func TestLookOfOthers(t *testing.T) {
	for _, form := range forms() {
		d := of(form)
		for _, s := range few(d) {
			bound, holds, keeps := saga.Bound(s, d), saga.Holds(s, d), saga.Keeps(s, d)
			checkLook(t, api.Saga{Marks: s.Marks}, d, bound, holds, keeps)
			for _, n := range append(modes(), most) {
				other := api.Saga{Id: n, Ref: "\xff", Def: "y", Lines: make([]api.Line, 5), Sum: n, Mode: n, Was: n, At: n, Tries: n, Why: n, Marks: s.Marks}
				checkLook(t, other, d, bound, holds, keeps)
			}
			x := api.Def{Name: "\xff", Steps: slices.Clone(d.Steps)}
			for i, step := range x.Steps {
				x.Steps[i] = api.Step{Op: step.Op, Class: step.Class, Tries: -1, Base: 2, Cap: 1, Wait: 3}
			}
			checkLook(t, s, x, bound, holds, keeps)
		}
	}
}

// TestEnded is of P24.4: what is fit and not live neither holds nor keeps, and what is
// fit and bound is not going back.
func TestEnded(t *testing.T) {
	var ended, bound, back, holding, keeping int
	for _, form := range forms() {
		for _, d := range []api.Def{of(form), tried(form, 5)} {
			for _, s := range fits(d) {
				if !saga.Fit(s, d) {
					t.Fatalf("%s is not fit", short(s))
				}
				checkLookLike(t, s, d)
				holds, keeps := saga.Holds(s, d), saga.Keeps(s, d)
				if !saga.Live(s) && (holds || keeps) || holds && keeps {
					t.Errorf("Holds is %t and Keeps is %t, of %s", holds, keeps, short(s))
				}
				if saga.Bound(s, d) && saga.Back(s) {
					t.Errorf("bound and going back is %s", short(s))
				}
				for count, is := range map[*int]bool{&ended: !saga.Live(s), &bound: saga.Bound(s, d), &back: saga.Back(s), &holding: holds, &keeping: keeps} {
					if is {
						*count++
					}
				}
			}
		}
	}
	if ended < 1000 || bound < 100 || back < 1000 || holding < 100 || keeping < 100 {
		t.Errorf("ended are %d, bound %d, going back %d, holding %d, keeping %d", ended, bound, back, holding, keeping)
	}
}

// TestWord is of P24.1: each Mode, and what is none.
func TestWord(t *testing.T) {
	for mode, want := range []string{"", "running", "undoing", "parked", "done", "undone", "", ""} {
		if got := saga.Word(mode); got != want {
			t.Errorf("Word of %d is %q", mode, got)
		}
	}
	for mode := -300; mode <= 300; mode++ {
		if got := saga.Word(mode); (got != "") != (mode >= 1 && mode <= 5) {
			t.Errorf("Word of %d is %q", mode, got)
		}
	}
	for _, mode := range far() {
		if got := saga.Word(mode); got != "" {
			t.Errorf("Word of %d is %q", mode, got)
		}
	}
}

// checkSame holds Same of two sagas, in each order, against what is wanted.
func checkSame(t *testing.T, a, b api.Saga, want bool) {
	t.Helper()
	if saga.Same(a, b) != want || saga.Same(b, a) != want {
		t.Errorf("Same is %t and %t, want %t, of %s and %s", saga.Same(a, b), saga.Same(b, a), want, short(a), short(b))
	}
}

// TestSame is of P24.1: a saga, what it is copied to, and it with one field that is
// another.
func TestSame(t *testing.T) {
	lists := [][]api.Line{{{Sku: "salt", N: 1}}, {{Sku: "tea", N: 5}}, {{Sku: "tea", N: 5}, {Sku: "salt", N: 1}}, {{Sku: "salt", N: 2}, {Sku: "tea", N: 5}}, {{Sku: "salt", N: 1}, {Sku: "tea", N: 4}},
		{{Sku: "salt", N: 1}, {Sku: "tee", N: 5}}, {{Sku: "Salt", N: 1}, {Sku: "tea", N: 5}}, {{Sku: "salt", N: 1}, {Sku: "tea", N: 5}, {}}, {{}}, {{}, {}}}
	for _, form := range forms() {
		for _, s := range few(of(form)) {
			checkSame(t, s, s, true)
			checkSame(t, s, copied(s), true)
			checkSame(t, s, api.Saga{}, false)
			for _, n := range append(far(), 1<<32+300, 1<<32+7) {
				for _, field := range append(numbers(), func(s *api.Saga) *int { return &s.Id }, func(s *api.Saga) *int { return &s.Sum }) {
					checkSame(t, s, set(copied(s), field, n), *field(&s) == n)
					checkSame(t, s, set(copied(s), field, *field(&s)+1), false)
				}
			}
			for _, text := range []string{"", "y", "X", "x-", "order-2", "Order-1", "order", "order-1 ", "\xff", strings.Repeat("x", 1<<16)} {
				ref, def := s, s
				ref.Ref, def.Def = text, text
				checkSame(t, s, ref, false)
				checkSame(t, s, def, false)
			}
			for _, l := range append(lists, nil, []api.Line{}) {
				other := s
				other.Lines = l
				checkSame(t, s, other, false)
			}
		}
	}
	// What one has in another field is not the same.
	checkSame(t, api.Saga{Ref: "a"}, api.Saga{Def: "a"}, false)
	checkSame(t, api.Saga{Ref: "a", Def: "b"}, api.Saga{Ref: "b", Def: "a"}, false)
	all := append(numbers(), func(s *api.Saga) *int { return &s.Id }, func(s *api.Saga) *int { return &s.Sum })
	for i, one := range all {
		for j, other := range all {
			checkSame(t, set(api.Saga{}, one, 1), set(api.Saga{}, other, 1), i == j)
		}
	}
}

// TestSameOfMarks is of P24.1: marks that are others, more, fewer or in another order;
// and lists that are nil and empty, which are the same.
func TestSameOfMarks(t *testing.T) {
	for _, form := range forms() {
		for _, s := range few(of(form)) {
			for place, mark := range s.Marks {
				for n := -1; n < 8; n++ {
					checkSame(t, s, marked(s, place, n), n == mark)
				}
				cut := s
				cut.Marks = s.Marks[:place]
				checkSame(t, s, cut, false)
				swapped := marked(marked(s, place, s.Marks[0]), 0, mark)
				checkSame(t, s, swapped, mark == s.Marks[0])
			}
			long := s
			long.Marks = append(slices.Clone(s.Marks), 0)
			checkSame(t, s, long, false)
		}
	}
	for _, lines := range [][]api.Line{nil, {}, make([]api.Line, 0, 4)} {
		for _, marks := range [][]int{nil, {}, make([]int, 0, 6)} {
			checkSame(t, api.Saga{}, api.Saga{Lines: lines, Marks: marks}, true)
			checkSame(t, api.Saga{Lines: lines}, api.Saga{Marks: marks}, true)
			checkSame(t, api.Saga{Lines: lines}, api.Saga{Marks: append(marks, 0)}, false)
			checkSame(t, api.Saga{Lines: append(lines, api.Line{})}, api.Saga{Marks: marks}, false)
		}
	}
	long := api.Saga{Lines: make([]api.Line, 1<<16), Marks: make([]int, 1<<16)}
	checkSame(t, long, copied(long), true)
	checkSame(t, long, marked(long, 1<<16-1, 1), false)
}

// TestSameOfEach is of P24.1: each two of the fit sagas for a definition, and of those
// for two.
func TestSameOfEach(t *testing.T) {
	l := append(fits(of("as ts bs")), few(of("hs as ks bp sf tf"))...)
	for i, a := range l {
		for j, b := range l {
			checkSame(t, a, b, i == j)
		}
	}
}
