package step_test

import (
	"math"
	"slices"
	"testing"

	"drayman/api"
	"drayman/back"
	"drayman/step"
)

// wantDelay is the reference of Delay: how much Base is when it has been doubled,
// as a number that does not wrap round, and at most the Cap.
func wantDelay(s api.Step, k int) int {
	if s.Base < 1 || s.Cap < s.Base || s.Cap > maxCap || k < 1 {
		return 0
	}
	return int(math.Min(math.Ldexp(float64(s.Base), min(k-1, 1000)), float64(s.Cap)))
}

// tryNumbers are numbers of tries, from the least number to the greatest: those
// that a step may have, those beyond, and such as would be one of them if they
// lost their upper bits.
func tryNumbers() []int {
	l := beyond(-9, -8, -4, 33, 34, 62, 63, 64, 65, 66, 99, 100)
	for k := range 33 {
		l = append(l, k)
	}
	return l
}

// checkDelay holds Delay against its reference and against back.Delay.
func checkDelay(t *testing.T, s api.Step, k int) {
	t.Helper()
	if got := step.Delay(s, k); got != wantDelay(s, k) || got != back.Delay(s.Base, s.Cap, k) {
		t.Errorf("Delay(%+v, %d) is %d, want %d", s, k, got, wantDelay(s, k))
	}
}

// TestDelay is of P20.1: delays that are written out.
func TestDelay(t *testing.T) {
	s := api.Step{Op: api.OpAuth, Class: api.Soft, Tries: 3, Base: 2, Cap: 5, Wait: 7}
	for k, want := range map[int]int{-1: 0, 0: 0, 1: 2, 2: 4, 3: 5, 4: 5, 5: 5, 6: 5, 100: 5, math.MaxInt: 5, math.MinInt: 0} {
		if got := step.Delay(s, k); got != want {
			t.Errorf("Delay behind %d is %d, want %d", k, got, want)
		}
	}
	s.Base, s.Cap = 1, 32
	for k, want := range []int{0, 1, 2, 4, 8, 16, 32, 32, 32} {
		if got := step.Delay(s, k); got != want {
			t.Errorf("Delay behind %d is %d, want %d", k, got, want)
		}
	}
	// There is none behind no failure, or where Base and Cap are no policy's.
	for _, s := range []api.Step{{}, {Op: 1, Class: 1, Base: 6, Cap: 5}, {Op: 1, Class: 1, Cap: 5}, {Op: 1, Class: 1, Base: 5}, {Op: 1, Class: 1, Base: 1, Cap: 33}} {
		if got := step.Delay(s, 1); got != 0 {
			t.Errorf("Delay(%+v, 1) is %d", s, got)
		}
	}
}

// TestDelayOfEach is of P20.1: each Base and Cap of a policy, with each number of
// tries.
func TestDelayOfEach(t *testing.T) {
	all := inOrder()
	for _, q := range policies() {
		for i, k := range tryNumbers() {
			checkDelay(t, with(all[i%len(all)], q, 0), k)
		}
	}
}

// TestDelayOfOthers is of P20.1: Bases and Caps that are no policy's, and steps
// that are not fit for what does not matter here.
func TestDelayOfOthers(t *testing.T) {
	for _, s := range slices.Concat(few(), unfit()) {
		for _, k := range []int{math.MinInt, -1, 0, 1, 2, 3, 4, 5, 6, 7, 64, 65, 1<<32 + 1, math.MaxInt} {
			checkDelay(t, s, k)
		}
	}
	all := beyond(0, 1, 2, 5, 6, 16, 31, 32, 33, 34, 64, 100)
	for _, n := range all {
		for _, m := range all {
			for k := -2; k < 9; k++ {
				checkDelay(t, api.Step{Op: 2, Class: 1, Tries: 2, Base: n, Cap: m, Wait: 3}, k)
			}
		}
	}
}

// TestDelayHangsOnPaceAlone is of P20.1: the fields other than Base and Cap change
// no delay.
func TestDelayHangsOnPaceAlone(t *testing.T) {
	for _, field := range []func(s *api.Step) *int{op, class, tries, wait} {
		for _, n := range beyond(0, 1, 2, 3, 4, 5, 6, 7, 20, 100) {
			s := change(api.Step{Op: 4, Class: 2, Tries: 5, Base: 3, Cap: 20, Wait: 9}, field, n)
			for k, want := range []int{0, 3, 6, 12, 20, 20, 20, 20, 20} {
				if got := step.Delay(s, k); got != want {
					t.Errorf("Delay(%+v, %d) is %d, want %d", s, k, got, want)
				}
			}
		}
	}
}
