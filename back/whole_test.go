package back_test

import (
	"math"
	"testing"

	"drayman/back"
)

// wantWhole is the reference of Whole of a policy.
func wantWhole(p policy) int {
	want := p.limit
	for k := 1; k <= p.tries; k++ {
		want += wantDelay(p.base, p.limit, k)
	}
	return want
}

// checkWhole holds one answer of Whole against what is wanted.
func checkWhole(t *testing.T, p policy, want int) {
	t.Helper()
	if got := back.Whole(p.tries, p.base, p.limit); got != want {
		t.Fatalf("Whole(%d, %d, %d) is %d, want %d", p.tries, p.base, p.limit, got, want)
	}
}

// TestWhole is of P15.1: sums that are written out, and three numbers that are no
// policy for each reason.
func TestWhole(t *testing.T) {
	for _, c := range []struct {
		p    policy
		want int
	}{
		{policy{2, 2, 5}, 11}, {policy{1, 2, 5}, 7}, {policy{0, 2, 5}, 5}, {policy{3, 2, 5}, 16}, {policy{4, 2, 5}, 21}, {policy{5, 2, 5}, 26},
		{policy{0, 1, 1}, 1}, {policy{1, 1, 1}, 2}, {policy{5, 1, 1}, 6}, {policy{0, 1, 32}, 32}, {policy{1, 1, 32}, 33},
		{policy{2, 1, 32}, 35}, {policy{3, 1, 32}, 39}, {policy{4, 1, 32}, 47}, {policy{5, 1, 32}, 63}, {policy{5, 1, 31}, 62},
		{policy{0, 32, 32}, 32}, {policy{1, 32, 32}, 64}, {policy{5, 32, 32}, 192}, {policy{5, 31, 32}, 191}, {policy{5, 16, 32}, 176},
		{policy{5, 3, 20}, 81}, {policy{4, 3, 24}, 69}, {policy{5, 3, 24}, 93}, {policy{5, 3, 25}, 95},
		{policy{-1, 2, 5}, 0}, {policy{6, 2, 5}, 0}, {policy{2, 0, 5}, 0}, {policy{2, 6, 5}, 0}, {policy{2, 0, 0}, 0}, {policy{2, 1, 0}, 0},
		{policy{2, 1, 33}, 0}, {policy{2, 33, 33}, 0}, {policy{0, 0, 5}, 0}, {policy{0, 6, 5}, 0}, {policy{0, 1, 33}, 0}, {policy{0, 0, 0}, 0},
		{policy{0, -2, -1}, 0}, {policy{0, 0, -1}, 0}, {policy{-1, 1, 1}, 0}, {policy{6, 32, 32}, 0},
		{policy{math.MaxInt, 2, 5}, 0}, {policy{math.MinInt, 2, 5}, 0}, {policy{2, math.MaxInt, 5}, 0}, {policy{2, math.MinInt, 5}, 0},
		{policy{2, 2, math.MaxInt}, 0}, {policy{2, 2, math.MinInt}, 0}, {policy{math.MaxInt, math.MaxInt, math.MaxInt}, 0},
		{policy{math.MinInt, math.MinInt, math.MinInt}, 0}, {policy{0, math.MaxInt, math.MaxInt}, 0},
	} {
		checkWhole(t, c.p, c.want)
	}
}

// TestWholeOfEach is of P15.1: each policy there is.
func TestWholeOfEach(t *testing.T) {
	for _, p := range policies() {
		checkWhole(t, p, wantWhole(p))
		sum := p.limit
		for k := 1; k <= p.tries; k++ {
			sum += back.Delay(p.base, p.limit, k)
		}
		checkWhole(t, p, sum)
	}
}

// TestWholeOfNoTries is of P15.1: without tries, the cap alone is left.
func TestWholeOfNoTries(t *testing.T) {
	eachPace(func(base, limit int) { checkWhole(t, policy{0, base, limit}, limit) })
}

// TestWholeOfNoPolicy is of P15.1: all numbers around the policies, and every
// three edges.
func TestWholeOfNoPolicy(t *testing.T) {
	is := isPolicy()
	none := func(p policy) {
		if !is[p] {
			checkWhole(t, p, 0)
		}
	}
	for tries := -maxTries - 3; tries <= maxCap+3; tries++ {
		for base := -maxCap - 3; base <= maxCap+3; base++ {
			for limit := -maxCap - 3; limit <= maxCap+3; limit++ {
				none(policy{tries, base, limit})
			}
		}
	}
	for _, tries := range edges() {
		for _, base := range edges() {
			for _, limit := range edges() {
				none(policy{tries, base, limit})
			}
		}
	}
}

// TestWholeAtMost is of P15.2: all delays and one more Cap are at most as many
// times Cap, just as many where each delay is Cap, and at least as many times Base.
func TestWholeAtMost(t *testing.T) {
	for _, p := range policies() {
		got, most := back.Whole(p.tries, p.base, p.limit), (p.tries+1)*p.limit
		if got > most || got < p.tries*p.base+p.limit {
			t.Fatalf("Whole(%d, %d, %d) is %d", p.tries, p.base, p.limit, got)
		}
		if all := p.tries == 0 || p.base == p.limit; all != (got == most) {
			t.Fatalf("Whole(%d, %d, %d) is %d, at most %d", p.tries, p.base, p.limit, got, most)
		}
	}
}

// TestSameAgain is of P15.1: nothing is kept from call to call, so all answers are
// the same in another order of the calls, and with calls of no policy in between.
func TestSameAgain(t *testing.T) {
	l := policies()
	for i := range l {
		p := l[len(l)-1-i]
		checkFit(t, p.tries, p.base, p.limit, true)
		for k := 10; k >= 1; k-- {
			checkDelay(t, p.base, p.limit, k, wantDelay(p.base, p.limit, k))
			checkDelay(t, p.limit+1, p.limit, k, 0)
		}
		checkWhole(t, policy{-1, p.base, p.limit}, 0)
		checkWhole(t, p, wantWhole(p))
	}
}
