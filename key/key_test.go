package key_test

import (
	"math"
	"testing"

	"drayman/api"
	"drayman/key"
)

const (
	most     = 1 << 40
	maxSteps = 6
)

// of is a key of its Saga, its Step and its Back.
func of(saga, step int, back bool) key.Key { return key.Key{Saga: saga, Step: step, Back: back} }

// goodSagas are Sagas of fit keys: those at the edges, those at which a digit is
// gained, and ordinary ones.
func goodSagas() []int {
	l := []int{1, 2, 3, 5, 6, 7, 8, 42, 64, 127, 128, 255, 256, 1 << 16, 1<<31 - 1, 1 << 31, 1<<32 - 1, 1 << 32, 1<<32 + 1, 123456789012, 1<<39 + 1, most - 256, most - 2, most - 1, most}
	for n := 10; n < most; n *= 10 {
		l = append(l, n-1, n, n+1)
	}
	return l
}

// badSagas are Sagas that no fit key has: among them such as would be in their
// range if they lost their upper bits or their sign.
func badSagas() []int {
	return []int{0, -1, -2, -3, -10, -255, -256, -1 << 31, -1<<32 + 1, -1 << 32, 1 - most, -most, -most - 1, -1 << 62, math.MinInt + 2, math.MinInt + 1, math.MinInt,
		most + 1, most + 2, most + 3, most + 1<<32, 2 * most, 2*most + 1, 1 << 48, 1<<62 - 1, 1 << 62, 1<<62 + 1, 1<<62 + most, math.MaxInt - 1, math.MaxInt}
}

// badSteps are Steps that no fit key has.
func badSteps() []int {
	return []int{-1, -2, -3, -5, -6, -7, -255, -256, -1 << 31, -1<<32 + 1, -1 << 32, -most, -1 << 62, math.MinInt + 6, math.MinInt + 5, math.MinInt + 1, math.MinInt,
		6, 7, 8, 9, 10, 11, 12, 15, 16, 32, 64, 100, 255, 256, 257, 261, 1 << 16, 1<<31 - 1, 1 << 31, 1<<32 - 1, 1 << 32, 1<<32 + 1, 1<<32 + 5, most - 1, most, most + 1,
		1 << 62, 1<<62 + 1, math.MaxInt - 1, math.MaxInt}
}

// good are fit keys: each Step with and without Back, of each good Saga.
func good() []key.Key {
	var l []key.Key
	for _, saga := range goodSagas() {
		for step := range maxSteps {
			l = append(l, of(saga, step, false), of(saga, step, true))
		}
	}
	return l
}

// few are such keys too, but not as many.
func few() []key.Key {
	return []key.Key{of(1, 0, false), of(1, 0, true), of(1, 5, true), of(3, 1, true), of(10, 2, false), of(99, 4, false), of(1<<32, 3, true), of(most-1, 5, false), of(most, 0, false), of(most, 5, true)}
}

// unfit are keys that are not fit, for one reason, and some for two.
func unfit() []key.Key {
	l := []key.Key{{}, {Back: true}}
	for _, back := range []bool{false, true} {
		for _, saga := range badSagas() {
			for step := range maxSteps {
				l = append(l, of(saga, step, back))
			}
		}
		for _, step := range badSteps() {
			for _, saga := range goodSagas() {
				l = append(l, of(saga, step, back))
			}
		}
		l = append(l, of(0, 6, back), of(0, -1, back), of(-1, -1, back), of(most+1, 6, back), of(math.MinInt, math.MinInt, back), of(math.MaxInt, math.MaxInt, back))
	}
	return l
}

// wantFit is the reference of Fit.
func wantFit(k key.Key) bool {
	is := map[int]bool{0: true, 1: true, 2: true, 3: true, 4: true, 5: true}[k.Step]
	if k.Saga < 1 || most < k.Saga {
		is = false
	}
	return is
}

// checkFit holds Fit against what is wanted, and against its reference.
func checkFit(t *testing.T, k key.Key, want bool) {
	t.Helper()
	if got := key.Fit(k); got != want || got != wantFit(k) {
		t.Errorf("Fit(%+v) is %t", k, got)
	}
}

// TestFit is of P22.1: keys that are fit, each Step of many Sagas, with Back and
// without.
func TestFit(t *testing.T) {
	for _, k := range append(good(), few()...) {
		checkFit(t, k, true)
	}
	for saga := 1; saga < 4096; saga++ {
		for step := range maxSteps {
			checkFit(t, of(saga, step, false), true)
			checkFit(t, of(most+1-saga, step, true), true)
		}
	}
}

// TestFitOfUnfit is of P22.1: keys that are not fit, for each reason.
func TestFitOfUnfit(t *testing.T) {
	for _, k := range unfit() {
		checkFit(t, k, false)
	}
}

// TestFitAtEdges is of P22.1: the edges of Saga and Step, written out.
func TestFitAtEdges(t *testing.T) {
	for _, back := range []bool{false, true} {
		for saga, is := range map[int]bool{math.MinInt: false, -1: false, 0: false, 1: true, 2: true, 1099511627775: true, 1099511627776: true, 1099511627777: false, math.MaxInt: false} {
			checkFit(t, of(saga, 0, back), is)
			checkFit(t, of(saga, 5, back), is)
			checkFit(t, of(saga, -1, back), false)
			checkFit(t, of(saga, 6, back), false)
		}
		for step, is := range map[int]bool{math.MinInt: false, -1: false, 0: true, 1: true, 2: true, 3: true, 4: true, 5: true, 6: false, 7: false, math.MaxInt: false} {
			checkFit(t, of(1, step, back), is)
			checkFit(t, of(7, step, back), is)
			checkFit(t, of(1099511627776, step, back), is)
			checkFit(t, of(0, step, back), false)
			checkFit(t, of(1099511627777, step, back), false)
		}
	}
}

// TestFitOfSmall is of P22.1: every key of small numbers.
func TestFitOfSmall(t *testing.T) {
	fit, all := 0, 0
	for saga := -40; saga < 200; saga++ {
		for step := -40; step < 200; step++ {
			for _, back := range []bool{false, true} {
				checkFit(t, of(saga, step, back), saga > 0 && step > -1 && step < 6)
				all++
				if key.Fit(of(saga, step, back)) {
					fit++
				}
			}
		}
	}
	if all != 240*240*2 || fit != 199*6*2 {
		t.Errorf("of %d are fit %d", all, fit)
	}
}

// TestExamples is of P22.1: what the chapter and the document's examples name.
func TestExamples(t *testing.T) {
	if got := key.Text(of(3, 1, true)); got != "3.1-" {
		t.Errorf("the text of saga 3, step 1 and Back is %q", got)
	}
	if got, err := key.Read("3.1-"); got != of(3, 1, true) || err != api.OK {
		t.Errorf("Read of it is %+v, %d", got, err)
	}
	if got, err := key.Read("3.06"); got != (key.Key{}) || err != api.ErrForm {
		t.Errorf("Read(%q) is %+v, %d", "3.06", got, err)
	}
}
