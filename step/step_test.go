package step_test

import (
	"math"
	"slices"
	"testing"

	"drayman/api"
	"drayman/step"
)

const (
	maxTries = 5
	maxCap   = 32
	maxWait  = 100
)

// pair is an Op and a Class.
type pair struct{ op, class int }

// pairs are the Ops and the Classes that go together, and which of them allow a
// Wait.
func pairs() map[pair]bool {
	return map[pair]bool{
		{api.OpHold, api.Soft}: true,
		{api.OpAuth, api.Soft}: true, {api.OpAuth, api.Pivot}: true, {api.OpAuth, api.Firm}: false,
		{api.OpKeep, api.Soft}: true,
		{api.OpBook, api.Soft}: true, {api.OpBook, api.Pivot}: true, {api.OpBook, api.Firm}: false,
		{api.OpSend, api.Pivot}: true, {api.OpSend, api.Firm}: false,
		{api.OpTake, api.Soft}: true, {api.OpTake, api.Pivot}: true, {api.OpTake, api.Firm}: false,
	}
}

// inOrder are the pairs in ascending order.
func inOrder() []pair {
	var l []pair
	for op := 1; op <= 6; op++ {
		for class := 1; class <= 3; class++ {
			if _, is := pairs()[pair{op, class}]; is {
				l = append(l, pair{op, class})
			}
		}
	}
	return l
}

// policy is the Tries, the Base and the Cap of a step.
type policy struct{ tries, base, limit int }

// policies are all policies that there are.
func policies() []policy {
	var l []policy
	for tries := 0; tries <= maxTries; tries++ {
		for limit := 1; limit <= maxCap; limit++ {
			for base := 1; base <= limit; base++ {
				l = append(l, policy{tries, base, limit})
			}
		}
	}
	return l
}

// edgePolicies are policies at their edges, and ordinary ones.
func edgePolicies() []policy {
	return []policy{{0, 1, 1}, {5, 1, 1}, {0, 1, 32}, {5, 1, 32}, {0, 32, 32}, {5, 32, 32}, {1, 2, 5}, {2, 9, 10}, {3, 10, 11}, {4, 10, 10}, {2, 31, 32}}
}

// wantFit is the reference of Fit.
func wantFit(s api.Step) bool {
	waits, is := pairs()[pair{s.Op, s.Class}]
	if s.Tries < 0 || maxTries < s.Tries || s.Base < 1 || s.Cap < s.Base || maxCap < s.Cap {
		is = false
	}
	if s.Wait != 0 && (!waits || s.Wait < 0 || maxWait < s.Wait) {
		is = false
	}
	return is
}

// with is a step of a pair, a policy and a Wait.
func with(p pair, q policy, wait int) api.Step {
	return api.Step{Op: p.op, Class: p.class, Tries: q.tries, Base: q.base, Cap: q.limit, Wait: wait}
}

// goodWaits are Waits of steps that are not Firm.
func goodWaits() []int { return []int{0, 1, 2, 9, 10, 11, 20, 50, 98, 99, 100} }

// good are fit steps: each Op with each Class that it may have, and numbers at
// and beside their edges.
func good() []api.Step {
	var l []api.Step
	for _, p := range inOrder() {
		for _, q := range edgePolicies() {
			for _, wait := range goodWaits() {
				if s := with(p, q, wait); wait == 0 || pairs()[p] {
					l = append(l, s)
				}
			}
		}
	}
	return l
}

// few are such steps too, but not as many: one of each pair, with the least
// numbers, ordinary ones and the greatest.
func few() []api.Step {
	var l []api.Step
	for _, p := range inOrder() {
		wait := 0
		if pairs()[p] {
			wait = maxWait
		}
		l = append(l, with(p, policy{0, 1, 1}, 0), with(p, policy{2, 3, 14}, wait/5), with(p, policy{5, 32, 32}, wait))
	}
	return l
}

// far are numbers that nothing of a step may be: among them such as would be in
// their range if they lost their upper bits or their sign.
func far() []int {
	return []int{-1, -2, -3, -5, -6, -7, -20, -32, -100, -255, -256, -1 << 31, -1<<32 + 1, -1 << 32, -1 << 40, -1 << 62, math.MinInt + 6, math.MinInt + 5,
		math.MinInt + 3, math.MinInt + 2, math.MinInt + 1, math.MinInt, 101, 102, 110, 128, 200, 255, 256, 257, 258, 259, 261, 262, 1 << 16, 1<<16 + 1,
		1<<31 - 1, 1 << 31, 1<<31 + 1, 1<<32 - 1, 1 << 32, 1<<32 + 1, 1<<32 + 2, 1<<32 + 3, 1<<32 + 5, 1<<32 + 6, 1<<32 + 20, 1 << 40, 1<<40 + 1,
		1 << 62, 1<<62 + 1, math.MaxInt - 1, math.MaxInt}
}

// beyond are far numbers and those that are handed in.
func beyond(more ...int) []int { return append(more, far()...) }

// change is a fit step in which one field has been set to a number.
func change(s api.Step, field func(s *api.Step) *int, n int) api.Step {
	*field(&s) = n
	return s
}

// The fields of a step.
func op(s *api.Step) *int    { return &s.Op }
func class(s *api.Step) *int { return &s.Class }
func tries(s *api.Step) *int { return &s.Tries }
func base(s *api.Step) *int  { return &s.Base }
func limit(s *api.Step) *int { return &s.Cap }
func wait(s *api.Step) *int  { return &s.Wait }

// fields are all fields of a step.
func fields() []func(s *api.Step) *int {
	return []func(s *api.Step) *int{op, class, tries, base, limit, wait}
}

// bad are steps that are not fit, each for one reason: what is not the reason is
// as in the fit step that is handed in.
func bad(s api.Step) []api.Step {
	var l []api.Step
	for _, n := range beyond(0, 7, 8, 9, 15, 16, 32, 64, 100) {
		l = append(l, change(s, op, n))
	}
	for _, n := range beyond(0, 4, 5, 6, 7, 8, 16, 32, 64, 100) {
		l = append(l, change(s, class, n))
	}
	for _, n := range beyond(6, 7, 8, 16, 32, 33, 100) {
		l = append(l, change(s, tries, n))
	}
	for _, n := range beyond(0, s.Cap+1, s.Cap+2, 33, 34, 64, 100) {
		l = append(l, change(s, base, n))
	}
	for _, n := range beyond(0, s.Base-1, 33, 34, 64, 100) {
		l = append(l, change(s, limit, n))
	}
	for _, n := range far() {
		l = append(l, change(s, wait, n))
	}
	// A Base above 32 with a Cap that is as much.
	for _, n := range []int{33, 34, 64, 100, 1 << 32, 1<<32 + 1, math.MaxInt} {
		x := change(s, base, n)
		l = append(l, change(x, limit, n))
	}
	return append(l, mismatched(s)...)
}

// mismatched are steps whose Op and Class do not go together, or whose Wait does
// not go with the Class.
func mismatched(s api.Step) []api.Step {
	var l []api.Step
	for _, p := range []pair{{api.OpHold, api.Pivot}, {api.OpHold, api.Firm}, {api.OpKeep, api.Pivot}, {api.OpKeep, api.Firm}, {api.OpSend, api.Soft}} {
		s.Op, s.Class = p.op, p.class
		l = append(l, s, change(s, wait, 0))
	}
	for _, s.Op = range []int{api.OpAuth, api.OpBook, api.OpSend, api.OpTake} {
		s.Class = api.Firm
		for _, n := range goodWaits()[1:] {
			l = append(l, change(s, wait, n))
		}
	}
	return l
}

// unfit are steps that are not fit, for each reason, and some for several.
func unfit() []api.Step {
	l := []api.Step{{}, {Op: 1}, {Op: 1, Class: 1}, {Op: 1, Class: 1, Base: 1}, {Op: 1, Class: 1, Cap: 1}, {Class: 1, Base: 1, Cap: 1}, {Op: 1, Base: 1, Cap: 1}, {Base: 1, Cap: 1},
		{Op: -1, Class: -1, Tries: -1, Base: -1, Cap: -1, Wait: -1}, {Op: 7, Class: 4, Tries: 6, Base: 33, Cap: 33, Wait: 101},
		{Op: math.MaxInt, Class: math.MaxInt, Tries: math.MaxInt, Base: math.MaxInt, Cap: math.MaxInt, Wait: math.MaxInt},
		{Op: math.MinInt, Class: math.MinInt, Tries: math.MinInt, Base: math.MinInt, Cap: math.MinInt, Wait: math.MinInt}}
	for _, s := range few() {
		l = append(l, bad(s)...)
	}
	return l
}

// checkFit holds Fit against what is wanted, and against its reference.
func checkFit(t *testing.T, s api.Step, want bool) {
	t.Helper()
	if got := step.Fit(s); got != want || got != wantFit(s) {
		t.Errorf("Fit(%+v) is %t", s, got)
	}
}

// TestFit is of P20.1: each Op with each Class that it may have, each policy, and
// each Wait.
func TestFit(t *testing.T) {
	for _, p := range inOrder() {
		for _, q := range policies() {
			checkFit(t, with(p, q, 0), true)
			checkFit(t, with(p, q, 1), pairs()[p])
			checkFit(t, with(p, q, maxWait), pairs()[p])
			checkFit(t, with(p, q, maxWait+1), false)
			checkFit(t, with(p, q, -1), false)
		}
		for _, q := range edgePolicies() {
			for wait := 1; wait <= maxWait; wait++ {
				checkFit(t, with(p, q, wait), pairs()[p])
			}
		}
	}
}

// TestFitOfUnfit is of P20.1: steps that are not fit, for each reason.
func TestFitOfUnfit(t *testing.T) {
	for _, s := range unfit() {
		checkFit(t, s, false)
	}
}

// TestFitOfPairs is of P20.1: each Op with each Class, also those that there are
// not, written out.
func TestFitOfPairs(t *testing.T) {
	// A line for each Op from -1 on, a place in it for each Class from -1 on: whether
	// such a step is never fit (.), with the Wait 0 alone (0), or with each Wait (w).
	for i, line := range []string{".......", ".......", "..w....", "..ww0..", "..w....", "..ww0..", "...w0..", "..ww0..", ".......", "......."} {
		for j, r := range line {
			s := api.Step{Op: i - 1, Class: j - 1, Tries: 1, Base: 2, Cap: 3}
			checkFit(t, s, r != '.')
			for _, n := range goodWaits()[1:] {
				checkFit(t, change(s, wait, n), r == 'w')
			}
		}
	}
}

// TestFitOfEachNumber is of P20.1: small numbers at each place of a step.
func TestFitOfEachNumber(t *testing.T) {
	fit, all := 0, 0
	var each func(s api.Step, rest []func(s *api.Step) *int)
	each = func(s api.Step, rest []func(s *api.Step) *int) {
		if len(rest) == 0 {
			checkFit(t, s, wantFit(s))
			all++
			if step.Fit(s) {
				fit++
			}
			return
		}
		for n := -1; n < 8; n++ {
			each(change(s, rest[0], n), rest[1:])
		}
	}
	each(api.Step{}, fields())
	// Nine pairs have a Wait from 0 to 7, four the Wait 0, each with 6 Tries and a
	// Base of at most a Cap up to 7.
	if all != 531441 || fit != (9*8+4)*6*28 {
		t.Errorf("of %d are fit %d", all, fit)
	}
}

// TestFitOfPolicies is of P20.1: numbers at and beyond the edges for Tries, Base
// and Cap.
func TestFitOfPolicies(t *testing.T) {
	all := beyond(0, 1, 2, 5, 6, 7, 16, 31, 32, 33, 34, 64, 99, 100)
	for _, p := range inOrder() {
		for _, n := range all {
			for _, m := range all {
				for _, tries := range []int{math.MinInt, -1, 0, 1, 5, 6, math.MaxInt} {
					s := with(p, policy{tries, n, m}, 0)
					checkFit(t, s, tries >= 0 && tries <= 5 && n >= 1 && n <= m && m <= 32)
				}
			}
		}
	}
}

// TestOutsideAndMust is of P20.1: each Op and each Class, of fit steps and of such
// as are not.
func TestOutsideAndMust(t *testing.T) {
	outside := map[int]bool{api.OpAuth: true, api.OpBook: true, api.OpTake: true}
	all := beyond(0, 1, 2, 3, 4, 5, 6, 7, 8, 9, 10, 16, 32, 64, 100)
	for _, s := range slices.Concat(good(), few(), unfit()) {
		checkOutsideAndMust(t, s, outside[s.Op], s.Class == 3)
	}
	for _, x := range all {
		for _, y := range all {
			for _, rest := range []api.Step{{}, {Base: 1, Cap: 1}, {Tries: 5, Base: 2, Cap: 32, Wait: 100}, {Tries: 2, Base: 4, Cap: 6, Wait: 3}, {Tries: -1, Base: -1, Cap: -1, Wait: -1}} {
				s := change(change(rest, op, x), class, y)
				checkOutsideAndMust(t, s, outside[x], y == 3)
			}
		}
	}
}

// checkOutsideAndMust holds Outside and Must of a step against what is wanted.
func checkOutsideAndMust(t *testing.T, s api.Step, outside, must bool) {
	t.Helper()
	if got := step.Outside(s); got != outside {
		t.Errorf("Outside(%+v) is %t", s, got)
	}
	if got := step.Must(s); got != must {
		t.Errorf("Must(%+v) is %t", s, got)
	}
}
