package saga_test

import (
	"slices"
	"strings"
	"testing"

	"drayman/api"
	"drayman/saga"
)

// numbers are the fields of a saga by which it is told how far it is, one by one.
func numbers() []func(s *api.Saga) *int {
	return []func(s *api.Saga) *int{mode, was, at, tries, why}
}

func mode(s *api.Saga) *int  { return &s.Mode }
func was(s *api.Saga) *int   { return &s.Was }
func at(s *api.Saga) *int    { return &s.At }
func tries(s *api.Saga) *int { return &s.Tries }
func why(s *api.Saga) *int   { return &s.Why }

// set is s, in which one number is another.
func set(s api.Saga, field func(s *api.Saga) *int, n int) api.Saga {
	*field(&s) = n
	return s
}

// marked is s with another mark at a place.
func marked(s api.Saga, place, mark int) api.Saga {
	s.Marks = slices.Clone(s.Marks)
	s.Marks[place] = mark
	return s
}

// checkSome holds Fit against its reference for what many calls of note are given, and
// the number of those that are fit against the least that is wanted.
func checkSome(t *testing.T, least int, all func(note func(s api.Saga, d api.Def))) {
	t.Helper()
	fit := 0
	all(func(s api.Saga, d api.Def) {
		want := wantStands(s, d)
		if saga.Fit(s, d) != want {
			checkFit(t, s, d, want)
			t.FailNow()
		}
		if want {
			fit++
		}
	})
	if fit < least {
		t.Errorf("only %d are fit", fit)
	}
}

// TestFitOfNumbers is of P24.1: each number in each field by which it is told how far a
// saga is, where all else is that of a fit one.
func TestFitOfNumbers(t *testing.T) {
	checkSome(t, 13000, func(note func(s api.Saga, d api.Def)) {
		for _, form := range forms() {
			for _, d := range []api.Def{of(form), tried(form, 0), tried(form, 5)} {
				for _, s := range few(d) {
					for _, field := range numbers() {
						for n := -1; n < 12; n++ {
							note(set(s, field, n), d)
						}
						for _, n := range far() {
							note(set(s, field, n), d)
						}
					}
				}
			}
		}
	})
}

// TestFitOfTwoNumbers is of P24.1: each two fields, with small numbers in each.
func TestFitOfTwoNumbers(t *testing.T) {
	checkSome(t, 3900, func(note func(s api.Saga, d api.Def)) {
		for _, form := range []string{"as", "bp", "ap tf", "as ts bs", "hs ks sp bf af", "hs as ks bp sf tf"} {
			for _, s := range few(of(form)) {
				for i, one := range numbers() {
					for _, other := range numbers()[i+1:] {
						for n := -1; n < 8; n++ {
							for m := -1; m < 8; m++ {
								note(set(set(s, one, n), other, m), of(form))
							}
						}
					}
				}
			}
		}
	})
}

// TestFitOfMarks is of P24.1: a mark of each kind, and what is none, at each place,
// ahead of At, at it and behind it.
func TestFitOfMarks(t *testing.T) {
	checkSome(t, 20000, func(note func(s api.Saga, d api.Def)) {
		for _, form := range forms() {
			for _, s := range fits(tried(form, 1)) {
				for place := range s.Marks {
					for mark := -1; mark < 8; mark++ {
						note(marked(s, place, mark), tried(form, 1))
					}
				}
			}
			for _, s := range few(of(form)) {
				for place := range s.Marks {
					for _, mark := range far() {
						note(marked(s, place, mark), of(form))
					}
				}
			}
		}
	})
}

// TestFitOfTwoMarks is of P24.1: two marks that are exchanged, and each two that are
// others.
func TestFitOfTwoMarks(t *testing.T) {
	checkSome(t, 19000, func(note func(s api.Saga, d api.Def)) {
		for _, form := range forms() {
			for _, s := range few(of(form)) {
				for place := range s.Marks {
					for other := range place {
						note(marked(marked(s, place, s.Marks[other]), other, s.Marks[place]), of(form))
						for pair := range 8 * 8 {
							note(marked(marked(s, place, pair/8-1), other, pair%8-1), of(form))
						}
					}
				}
			}
		}
	})
}

// TestFitOfLength is of P24.1: marks too few and too many, by one and by more.
func TestFitOfLength(t *testing.T) {
	for _, form := range forms() {
		d := of(form)
		for _, s := range few(d) {
			all := s.Marks
			for many := range all {
				s.Marks = all[:many]
				checkFit(t, s, d, false)
				s.Marks = all[len(all)-many:]
				checkFit(t, s, d, false)
			}
			for mark := -1; mark < 8; mark++ {
				for _, s.Marks = range [][]int{append(slices.Clone(all), mark), append([]int{mark}, all...), append(slices.Clone(all), mark, mark), append(slices.Clone(all), slices.Repeat([]int{mark}, 1<<12)...)} {
					checkFit(t, s, d, false)
				}
			}
			for _, s.Marks = range [][]int{nil, {}, slices.Repeat(all, 2)} {
				checkFit(t, s, d, false)
			}
			// As many steps as there are marks do not do, if At is behind the last.
			s.Marks = append(slices.Clone(all), all[len(all)-1])
			s.At++
			checkFit(t, s, d, false)
		}
	}
}

// TestFitOfSmall is of P24.1: all sagas of small numbers for definitions of one step
// and of two, and all marks with some numbers for such of three.
func TestFitOfSmall(t *testing.T) {
	small := func(note func(s api.Saga, d api.Def), d api.Def, whys []int, letters string) {
		s := plain(d)
		for _, word := range words(len(d.Steps), letters) {
			s.Marks = marks(word)
			for s.Mode = 0; s.Mode < 7; s.Mode++ {
				for s.Was = 0; s.Was < 4; s.Was++ {
					for s.At = -1; s.At < len(d.Steps)+2; s.At++ {
						for s.Tries = -1; s.Tries < 3; s.Tries++ {
							for _, s.Why = range whys {
								note(s, d)
							}
						}
					}
				}
			}
		}
	}
	checkSome(t, 1000, func(note func(s api.Saga, d api.Def)) {
		for _, form := range []string{"as", "bp", "bs", "ap", "as ts", "ap tf", "as tp", "bs ap"} {
			small(note, tried(form, 1), []int{-1, 0, 1, 2, 3, 4, 5, 6, 7, 8}, kinds+"?")
		}
		for _, form := range []string{"hs ks sp", "as ts bs", "ap bf tf", "as bp tf"} {
			small(note, tried(form, 1), []int{0, 1, 7}, kinds)
		}
	})
}

// TestFitOfAllMarks is of P24.1: all marks there are for definitions of six steps, in
// each Mode at each step.
func TestFitOfAllMarks(t *testing.T) {
	standings := []api.Saga{{Mode: 1}, {Mode: 2, Why: 1}, {Mode: 3, Was: 1}, {Mode: 3, Was: 2, Why: 6}, {Mode: 4}, {Mode: 5, Why: 3}}
	for form, want := range map[string]int{"hs as ks bp sf tf": 2*3 + 2*(81+9) + 1 + 729, "as bs hs ks ts sp": 2*3 + 2*(243+81+3) + 1 + 729} {
		checkSome(t, want, func(note func(s api.Saga, d api.Def)) {
			d := of(form)
			s := plain(d)
			for _, word := range words(6, kinds) {
				s.Marks = marks(word)
				for _, x := range standings {
					s.Mode, s.Was, s.Why = x.Mode, x.Was, x.Why
					for s.At = range 7 {
						note(s, d)
					}
				}
			}
		})
	}
}

// TestFitOfAt is of P24.1: each At at which the step is not outside, with the marks
// that would be those of a saga there.
func TestFitOfAt(t *testing.T) {
	for _, form := range forms() {
		d := of(form)
		n := len(d.Steps)
		for at, op := range opsOf(d) {
			forward, back := plain(d), plain(d)
			forward.Mode, forward.At, forward.Marks = 1, at, marks(strings.Repeat("d", at)+"s"+strings.Repeat("n", n-1-at))
			back.Mode, back.At, back.Why, back.Marks = 2, at, 4, marks(strings.Repeat("d", at)+"b"+strings.Repeat("n", n-1-at))
			outside := strings.ContainsRune("abt", op)
			pivot := strings.IndexByte(classesOf(d), 'p')
			checkFit(t, forward, d, outside)
			checkFit(t, back, d, outside && (pivot < 0 || pivot >= at))
			forward.Mode, forward.Was, back.Mode, back.Was = 3, 1, 3, 2
			checkFit(t, forward, d, outside)
			checkFit(t, back, d, outside && (pivot < 0 || pivot >= at))
		}
	}
}

// TestFitOfTries is of P24.1: Tries at the edges of each step's, which need not be
// those of another.
func TestFitOfTries(t *testing.T) {
	for _, form := range forms() {
		for many := range 6 {
			d := tried(form, many)
			for _, s := range going(d) {
				for n, want := range map[int]bool{-1: false, 0: true, many: true, many + 1: false, many + 2: false, -many - 1: false} {
					checkFit(t, set(s, tries, n), d, want)
				}
			}
			for _, s := range ended(d) {
				for n := -1; n < 7; n++ {
					checkFit(t, set(s, tries, n), d, n == 0)
				}
			}
		}
		// The Tries of the step At are those that count.
		d := tried(form, 0)
		for at := range d.Steps {
			d.Steps[at].Tries = 5
			for _, s := range few(d) {
				for n := range 7 {
					checkFit(t, set(s, tries, n), d, n == 0 || n <= 5 && s.At == at && s.Mode < api.Done)
				}
			}
			d.Steps[at].Tries = 0
		}
	}
}

// TestFitOfWhy is of P24.1: a Was and a Why of each kind for each Mode.
func TestFitOfWhy(t *testing.T) {
	for _, form := range forms() {
		for _, s := range few(of(form)) {
			back := s.Mode == api.Undoing || s.Mode == api.Undone || s.Was == api.Undoing
			for n := -2; n < 12; n++ {
				checkFit(t, set(s, why, n), of(form), back && n >= 1 && n <= 6 || !back && n == 0)
				checkFit(t, set(s, was, n), of(form), n == s.Was)
				checkFit(t, set(s, mode, n), of(form), n == s.Mode)
			}
			// Who is parked was what it was: no other way fits its marks.
			if s.Mode != api.Parked {
				continue
			}
			for n := range 7 {
				checkFit(t, set(set(s, mode, s.Was), was, n), of(form), n == 0)
				checkFit(t, set(set(s, mode, 3-s.Was), was, n), of(form), false)
				checkFit(t, set(s, was, n), of(form), n == s.Was)
			}
		}
	}
}

// TestFitOfPivot is of P24.1: sagas that go back while the pivot has each mark, ahead
// of At, at it and behind it; and the same with no pivot.
func TestFitOfPivot(t *testing.T) {
	for _, c := range []struct {
		form, marks string
		at          int
		want        bool
	}{
		{"ap tf", "bn", 0, true}, {"ap tf", "db", 1, false}, {"ap tf", "dx", 0, false}, {"as bp", "bd", 0, false}, {"as bp", "bn", 0, true}, {"as bp", "bu", 0, true}, {"as bp", "bx", 0, true}, {"as bp", "bs", 0, false},
		{"as bp", "bb", 0, false}, {"as bp", "db", 1, true}, {"as bp", "ds", 1, false}, {"as bp", "dn", 1, false}, {"as bp", "dd", 1, false}, {"as bs", "db", 1, true}, {"as bs", "bd", 0, false},
		{"as bp tf", "ddb", 2, false}, {"as bp tf", "dub", 2, false}, {"as bp tf", "dbn", 1, true}, {"as bp tf", "dbd", 1, false}, {"as bp tf", "dbs", 1, false}, {"as bp tf", "bdn", 0, false}, {"as bp tf", "bnn", 0, true},
		{"as ts bs", "ddb", 2, true}, {"as ts bs", "dbu", 1, true}, {"as ts bs", "bux", 0, true}, {"hs ks sp bf af", "dddbn", 3, false}, {"hs ks sp bf af", "ddddb", 4, false}, {"hs ks sp bf af", "dddbn", 2, false},
		{"hs as ks bp sf tf", "dddbnn", 3, true}, {"hs as ks bp sf tf", "dbunnn", 1, true}, {"hs as ks bp sf tf", "dbudnn", 1, false}, {"hs as ks bp sf tf", "dbusnn", 1, false}, {"hs as ks bp sf tf", "dbuxnn", 1, true},
		{"hs as ks bp sf tf", "dbuunn", 1, true}, {"hs as ks bp sf tf", "dbubnn", 1, false}, {"hs as ks bp sf tf", "dddddb", 5, false}, {"hs as ks bp sf tf", "dddnnb", 5, false}, {"hs as ks bp sf tf", "dddubn", 4, false},
		{"bs as hs ts ks sp", "dbnnnn", 1, true}, {"bs as hs ts ks sp", "dbnnnd", 1, false}, {"bs as hs ts ks sp", "dddbuu", 3, true}, {"bs as hs ts ks sp", "bdnnnn", 0, false},
	} {
		s := plain(of(c.form))
		s.Why, s.At, s.Marks = 5, c.at, marks(c.marks)
		checkFit(t, set(s, mode, api.Undoing), of(c.form), c.want)
		checkFit(t, set(set(s, mode, api.Parked), was, api.Undoing), of(c.form), c.want)
		checkFit(t, set(set(s, mode, api.Parked), was, api.Running), of(c.form), false)
		checkFit(t, set(s, mode, api.Running), of(c.form), false)
		checkFit(t, set(set(s, mode, api.Running), why, 0), of(c.form), c.form == "as bp" && c.marks == "ds")
	}
}

// TestFitOfSeveral is of P24.1: what is wrong in two things is wrong, and the zero saga
// is fit for nothing.
func TestFitOfSeveral(t *testing.T) {
	for _, form := range forms() {
		checkFit(t, api.Saga{}, of(form), false)
		checkFit(t, plain(of(form)), of(form), false)
		for _, s := range few(of(form)) {
			changes := []func(s *api.Saga){func(s *api.Saga) { s.Id = 0 }, func(s *api.Saga) { s.Ref = "" }, func(s *api.Saga) { s.Def = "" }, func(s *api.Saga) { s.Lines = make([]api.Line, 1) }, func(s *api.Saga) { s.Sum = -1 },
				func(s *api.Saga) { s.Mode = 0 }, func(s *api.Saga) { s.Was = 4 }, func(s *api.Saga) { s.At = -1 }, func(s *api.Saga) { s.Tries = -1 }, func(s *api.Saga) { s.Why = 7 }, func(s *api.Saga) { s.Marks = nil }}
			for i, one := range changes {
				for _, other := range changes[i:] {
					x := copied(s)
					one(&x)
					other(&x)
					checkFit(t, x, of(form), false)
				}
			}
		}
	}
}
