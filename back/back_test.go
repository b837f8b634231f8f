package back_test

import (
	"math"
	"slices"
	"testing"

	"drayman/back"
)

const (
	maxTries = 5
	maxCap   = 32
)

// policy is what chapter 15 calls a policy, or three numbers that are none.
type policy struct{ tries, base, limit int }

// policies are all policies that there are, with the least numbers first.
func policies() []policy {
	var l []policy
	for tries := 0; tries <= maxTries; tries++ {
		for limit := 1; limit <= maxCap; limit++ {
			for base := 1; base <= limit; base++ {
				l = append(l, policy{tries, base, limit})
			}
		}
	}
	return l
}

// isPolicy is the policies to look one up in.
func isPolicy() map[policy]bool {
	is := map[policy]bool{}
	for _, p := range policies() {
		is[p] = true
	}
	return is
}

// edges are numbers at and beyond what may stand in a policy, in ascending order:
// among them such as would be in it if they lost their upper bits.
func edges() []int {
	return []int{math.MinInt, math.MinInt + 1, math.MinInt + 5, math.MinInt + 32, -1 << 40, -1<<32 - 1, -1 << 32, -1<<32 + 3, -1 << 31,
		-256, -255, -64, -33, -32, -31, -6, -5, -4, -1, 0, 1, 2, 4, 5, 6, 7, 8, 15, 16, 17, 31, 32, 33, 34, 63, 64, 65, 255, 256, 257, 261,
		1 << 16, 1<<16 + 1, 1<<31 - 1, 1 << 31, 1<<31 + 1, 1 << 32, 1<<32 + 1, 1<<32 + 5, 1<<32 + 32, 1<<32 + 33, 1 << 40, 1<<40 + 1,
		1 << 62, math.MaxInt - 32, math.MaxInt - 1, math.MaxInt}
}

// checkFit holds one answer of Fit against what is wanted.
func checkFit(t *testing.T, tries, base, limit int, want bool) {
	t.Helper()
	if got := back.Fit(tries, base, limit); got != want {
		t.Fatalf("Fit(%d, %d, %d) is %t", tries, base, limit, got)
	}
}

// TestFit is of P15.1: policies at each edge, and three numbers that are none for
// each reason.
func TestFit(t *testing.T) {
	for _, c := range []struct {
		tries, base, limit int
		want               bool
	}{
		{2, 2, 5, true}, {0, 1, 1, true}, {5, 1, 1, true}, {0, 1, 32, true}, {5, 1, 32, true}, {0, 32, 32, true}, {5, 32, 32, true},
		{3, 4, 4, true}, {3, 3, 4, true}, {1, 31, 32, true}, {4, 31, 31, true},
		{-1, 2, 5, false}, {6, 2, 5, false}, {-1, 1, 1, false}, {6, 32, 32, false}, {math.MinInt, 2, 5, false}, {math.MaxInt, 2, 5, false},
		{2, 0, 5, false}, {2, -1, 5, false}, {2, 6, 5, false}, {2, 2, 1, false}, {2, 33, 32, false}, {2, 0, 32, false}, {2, 32, 31, false},
		{2, math.MinInt, 5, false}, {2, math.MaxInt, 5, false},
		{2, 0, 0, false}, {2, 1, 0, false}, {2, 1, 33, false}, {2, 33, 33, false}, {2, 32, 33, false}, {2, 34, 33, false},
		{2, 0, -1, false}, {2, -1, -1, false}, {2, -2, -1, false}, {2, 2, -5, false}, {2, 2, math.MinInt, false}, {2, 2, math.MaxInt, false},
		{-1, 0, 0, false}, {6, 34, 33, false}, {0, 0, 0, false}, {5, 2, 2, true}, {5, 2, 6, true}, {2, 5, 2, false},
		{math.MinInt, math.MinInt, math.MinInt, false}, {math.MaxInt, math.MaxInt, math.MaxInt, false},
	} {
		checkFit(t, c.tries, c.base, c.limit, c.want)
	}
}

// TestFitOfEach is of P15.1: each policy there is, and all numbers around them.
func TestFitOfEach(t *testing.T) {
	is := isPolicy()
	if len(is) != 3168 {
		t.Fatalf("there are %d policies to try", len(is))
	}
	for tries := -maxCap - 3; tries <= maxCap+3; tries++ {
		for base := -maxCap - 3; base <= maxCap+3; base++ {
			for limit := -maxCap - 3; limit <= maxCap+3; limit++ {
				checkFit(t, tries, base, limit, is[policy{tries, base, limit}])
			}
		}
	}
}

// TestFitOfEdges is of P15.1: every three edges, the least and the greatest
// numbers among them.
func TestFitOfEdges(t *testing.T) {
	is := isPolicy()
	for _, tries := range edges() {
		for _, base := range edges() {
			for _, limit := range edges() {
				checkFit(t, tries, base, limit, is[policy{tries, base, limit}])
			}
		}
	}
}

// TestLast is of P15.1: as many failures as tries, one more and one less, of
// policies and of any numbers.
func TestLast(t *testing.T) {
	for _, c := range []struct {
		tries, failures int
		want            bool
	}{
		{2, 3, true}, {2, 2, false}, {2, 1, false}, {2, 4, true}, {2, 0, false}, {2, 100, true},
		{0, 0, false}, {0, 1, true}, {0, -1, false}, {5, 5, false}, {5, 6, true}, {5, 4, false}, {1, 1, false}, {1, 2, true},
		{6, 6, false}, {6, 7, true}, {33, 33, false}, {33, 34, true}, {-1, -1, false}, {-1, 0, true}, {-1, -2, false}, {-2, -1, true},
		{-3, 3, true}, {3, -3, false}, {-3, -4, false}, {-4, -3, true},
		{math.MaxInt, math.MaxInt, false}, {math.MaxInt - 1, math.MaxInt, true}, {math.MaxInt, math.MaxInt - 1, false},
		{math.MinInt, math.MinInt, false}, {math.MinInt, math.MinInt + 1, true}, {math.MinInt + 1, math.MinInt, false},
		{math.MinInt, math.MaxInt, true}, {math.MaxInt, math.MinInt, false}, {0, math.MaxInt, true}, {0, math.MinInt, false},
		{math.MaxInt, 0, false}, {math.MinInt, 0, true}, {5, math.MinInt, false}, {5, math.MaxInt, true}, {1, math.MinInt, false},
		{-1, math.MaxInt, true}, {5, 1 << 32, true}, {1 << 32, 5, false}, {1 << 32, 1<<32 + 1, true}, {5, -1 << 32, false},
	} {
		if got := back.Last(c.tries, c.failures); got != c.want {
			t.Errorf("Last(%d, %d) is %t", c.tries, c.failures, got)
		}
	}
}

// TestLastOfAny is of P15.1: of two numbers in ascending order, the second is
// greater just if it stands behind the first.
func TestLastOfAny(t *testing.T) {
	l := edges()
	for n := -100; n <= 100; n++ {
		l = append(l, n)
	}
	slices.Sort(l)
	l = slices.Compact(l)
	for i, tries := range l {
		for j, failures := range l {
			if got := back.Last(tries, failures); got != (j > i) {
				t.Fatalf("Last(%d, %d) is %t", tries, failures, got)
			}
		}
	}
}
