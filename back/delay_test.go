package back_test

import (
	"math"
	"testing"

	"drayman/back"
)

// failures are numbers of failures of which none is the first few: the greatest,
// and such as would be less, or no failure, if they lost their upper bits.
func failures() []int {
	return []int{7, 8, 9, 31, 32, 33, 34, 62, 63, 64, 65, 66, 100, 127, 128, 129, 255, 256, 257, 1 << 16, 1<<16 + 1, 1<<31 - 1, 1 << 31,
		1<<31 + 1, 1<<32 - 1, 1 << 32, 1<<32 + 1, 1<<32 + 2, 1 << 40, 1<<40 + 1, 1 << 62, 1<<62 + 1, math.MaxInt - 1, math.MaxInt}
}

// noFailures are numbers of no failure.
func noFailures() []int {
	return []int{0, -1, -2, -3, -31, -32, -33, -63, -64, -65, -256, -255, -1 << 31, -1<<32 + 1, -1<<32 + 2, -1 << 32, -1 << 40,
		math.MinInt + 2, math.MinInt + 1, math.MinInt}
}

// wantDelay is the reference of a delay of a policy: how much it is without a
// cap, as a number that does not wrap round, and at most the cap.
func wantDelay(base, limit, k int) int {
	exponent := min(k-1, 1000)
	return int(math.Min(math.Ldexp(float64(base), exponent), float64(limit)))
}

// checkDelay holds one answer of Delay against what is wanted.
func checkDelay(t *testing.T, base, limit, k, want int) {
	t.Helper()
	if got := back.Delay(base, limit, k); got != want {
		t.Fatalf("Delay(%d, %d, %d) is %d, want %d", base, limit, k, got, want)
	}
}

// eachPace calls f with each Base and Cap that belong to a policy.
func eachPace(f func(base, limit int)) {
	for _, p := range policies() {
		if p.tries == 0 {
			f(p.base, p.limit)
		}
	}
}

// TestDelay is of P15.1: delays that are written out, for k from 1 on, also where
// Base is Cap and where Base doubled meets Cap just so, not yet, or passes it.
func TestDelay(t *testing.T) {
	for _, c := range []struct {
		base, limit int
		want        []int
	}{
		{2, 5, []int{2, 4, 5, 5, 5}}, {1, 1, []int{1, 1, 1}}, {1, 2, []int{1, 2, 2}}, {1, 3, []int{1, 2, 3, 3}}, {1, 4, []int{1, 2, 4, 4}},
		{1, 5, []int{1, 2, 4, 5, 5}}, {1, 16, []int{1, 2, 4, 8, 16, 16}}, {1, 17, []int{1, 2, 4, 8, 16, 17, 17}},
		{1, 31, []int{1, 2, 4, 8, 16, 31, 31}}, {1, 32, []int{1, 2, 4, 8, 16, 32, 32, 32}}, {2, 2, []int{2, 2, 2}}, {2, 3, []int{2, 3, 3}},
		{2, 4, []int{2, 4, 4}}, {3, 23, []int{3, 6, 12, 23, 23}}, {3, 24, []int{3, 6, 12, 24, 24}}, {3, 25, []int{3, 6, 12, 24, 25, 25}},
		{3, 32, []int{3, 6, 12, 24, 32, 32}}, {5, 19, []int{5, 10, 19, 19}}, {5, 20, []int{5, 10, 20, 20}}, {5, 21, []int{5, 10, 20, 21, 21}},
		{7, 29, []int{7, 14, 28, 29, 29}}, {15, 32, []int{15, 30, 32, 32}}, {16, 31, []int{16, 31, 31}}, {16, 32, []int{16, 32, 32}},
		{17, 32, []int{17, 32, 32}}, {31, 31, []int{31, 31, 31}}, {31, 32, []int{31, 32, 32}}, {32, 32, []int{32, 32, 32}},
	} {
		for i, want := range c.want {
			checkDelay(t, c.base, c.limit, i+1, want)
		}
		checkDelay(t, c.base, c.limit, math.MaxInt, c.want[len(c.want)-1])
	}
}

// TestDelayOfEach is of P15.1: each Base and Cap of a policy, for each k.
func TestDelayOfEach(t *testing.T) {
	eachPace(func(base, limit int) {
		for k := 1; k <= 300; k++ {
			checkDelay(t, base, limit, k, wantDelay(base, limit, k))
		}
	})
}

// TestDelayOfManyFailures is of P15.1: however many failures there are, the delay
// is the cap, and the call ends.
func TestDelayOfManyFailures(t *testing.T) {
	eachPace(func(base, limit int) {
		for _, k := range failures() {
			checkDelay(t, base, limit, k, limit)
		}
	})
}

// TestDelayOfNoFailure is of P15.1: k of 0 and below.
func TestDelayOfNoFailure(t *testing.T) {
	eachPace(func(base, limit int) {
		for _, k := range noFailures() {
			checkDelay(t, base, limit, k, 0)
		}
		for k := -300; k <= 0; k++ {
			checkDelay(t, base, limit, k, 0)
		}
	})
}

// TestDelayWhereTheCapIsMet is of P15.1: the first k whose delay is the cap, the
// one ahead of it, whose delay is not cut off, and the one behind it.
func TestDelayWhereTheCapIsMet(t *testing.T) {
	eachPace(func(base, limit int) {
		met := 1
		for base<<(met-1) < limit {
			met++
		}
		checkDelay(t, base, limit, met, limit)
		checkDelay(t, base, limit, met+1, limit)
		if met == 1 {
			checkDelay(t, base, limit, met-1, 0)
			return
		}
		checkDelay(t, base, limit, met-1, base<<(met-2))
		if ahead := back.Delay(base, limit, met-1); ahead >= limit {
			t.Fatalf("Delay(%d, %d, %d) is %d", base, limit, met-1, ahead)
		}
	})
}

// TestDelayOfNoPolicy is of P15.1: a base and a limit that belong to no policy,
// each around those that do, and every two edges.
func TestDelayOfNoPolicy(t *testing.T) {
	is := isPolicy()
	none := func(base, limit int) {
		if is[policy{0, base, limit}] {
			return
		}
		for k := -3; k <= 10; k++ {
			checkDelay(t, base, limit, k, 0)
		}
		for _, k := range append(failures(), noFailures()...) {
			checkDelay(t, base, limit, k, 0)
		}
	}
	for base := -maxCap - 3; base <= maxCap+3; base++ {
		for limit := -maxCap - 3; limit <= maxCap+3; limit++ {
			none(base, limit)
		}
	}
	for _, base := range edges() {
		for _, limit := range edges() {
			none(base, limit)
		}
	}
}

// TestDelayNeverDecreases is of P15.2: each delay is at least the one before it,
// at least Base and at most Cap.
func TestDelayNeverDecreases(t *testing.T) {
	eachPace(func(base, limit int) {
		before := base
		for k := 1; k <= 300; k++ {
			delay := back.Delay(base, limit, k)
			if delay < before || delay < base || delay > limit {
				t.Fatalf("Delay(%d, %d, %d) is %d, and %d before it", base, limit, k, delay, before)
			}
			before = delay
		}
		for _, k := range failures() {
			if delay := back.Delay(base, limit, k); delay < base || delay > limit {
				t.Fatalf("Delay(%d, %d, %d) is %d", base, limit, k, delay)
			}
		}
	})
}

// TestDelayDoubles is of P15.1 and P15.2: the first delay is Base, each one behind
// it is twice the one before it, until that is no less than Cap.
func TestDelayDoubles(t *testing.T) {
	eachPace(func(base, limit int) {
		before := back.Delay(base, limit, 1)
		if before != base {
			t.Fatalf("Delay(%d, %d, 1) is %d", base, limit, before)
		}
		for k := 2; k <= 300; k++ {
			delay := back.Delay(base, limit, k)
			if doubled := before + before; doubled < limit && delay != doubled || doubled >= limit && delay != limit {
				t.Fatalf("Delay(%d, %d, %d) is %d, and %d before it", base, limit, k, delay, before)
			}
			before = delay
		}
	})
}
