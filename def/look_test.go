package def_test

import (
	"math"
	"slices"
	"strings"
	"testing"

	"drayman/api"
	"drayman/def"
)

// placed are numbers that are asked for as Ops.
func placed() []int { return append(far(), 0, 1, 2, 3, 4, 5, 6, 7, 8, 9, 16, 32, 64, 100) }

// checkPlace holds Place against what is wanted.
func checkPlace(t *testing.T, d api.Def, op, want int) {
	t.Helper()
	if got := def.Place(d, op); got != want {
		t.Errorf("Place of %d is %d, want %d, in %.300v", op, got, want, d)
	}
}

// checkPivot holds Pivot against what is wanted.
func checkPivot(t *testing.T, d api.Def, want int) {
	t.Helper()
	if got := def.Pivot(d); got != want {
		t.Errorf("Pivot is %d, want %d, of %.300v", got, want, d)
	}
}

// TestPlace is of P21.1: each Op that is there, and numbers that are none.
func TestPlace(t *testing.T) {
	for _, d := range append(fits(), unfit()...) {
		first := map[int]int{}
		for at, s := range d.Steps {
			if _, is := first[s.Op]; !is {
				first[s.Op] = at
			}
		}
		for _, op := range placed() {
			want, is := first[op]
			if !is {
				want = -1
			}
			checkPlace(t, d, op, want)
		}
	}
}

// TestPlaceOfEach is of P21.1: each Op of each form, at its place, and those that
// the form has not.
func TestPlaceOfEach(t *testing.T) {
	for _, form := range append(forms(), "as as", "bs as bs", "hs ks hs ks", "ts ts as ts", "as bs as bs as bs as", "") {
		for op := 1; op <= 6; op++ {
			checkPlace(t, of(form), op, strings.IndexByte(column(form, 0), ops[op]))
		}
		for _, op := range append(far(), 0, 7, 8, 9, 10) {
			checkPlace(t, of(form), op, -1)
		}
	}
}

// TestPlaceOfAny is of P21.1: what is no Op and stands in a step all the same, and
// definitions without Steps, with many, or without a name.
func TestPlaceOfAny(t *testing.T) {
	for _, op := range placed() {
		checkPlace(t, api.Def{}, op, -1)
		checkPlace(t, api.Def{Name: "x", Steps: []api.Step{}}, op, -1)
		for at := range 9 {
			d := api.Def{Name: "\xff", Steps: slices.Repeat([]api.Step{{Op: 1 << 20, Class: 1}}, 9)}
			checkPlace(t, d, op, -1)
			d.Steps[at].Op = op
			checkPlace(t, d, op, at)
			d.Steps[8].Op = op
			checkPlace(t, d, op, at)
			checkPlace(t, d, op+1, -1)
			checkPlace(t, d, op-1, -1)
		}
	}
	// The other fields of a step are none of its Op.
	d := api.Def{Name: "x", Steps: []api.Step{{Op: 1, Class: 2, Tries: 3, Base: 4, Cap: 5, Wait: 6}, {Op: 2, Class: 3, Tries: 1, Base: 1, Cap: 1, Wait: 1}}}
	for op, want := range []int{-1, 0, 1, -1, -1, -1, -1} {
		checkPlace(t, d, op, want)
	}
	long := api.Def{Steps: append(slices.Repeat(stepped("as bs"), 1<<16), stepped("ts")...)}
	checkPlace(t, long, api.OpBook, 1)
	checkPlace(t, long, api.OpTake, 1<<17)
	checkPlace(t, long, api.OpSend, -1)
}

// TestPivot is of P21.1: no pivot, one at each place, and several.
func TestPivot(t *testing.T) {
	for _, form := range append(forms(), "", "hp", "kp hp", "ap bp", "as bp tp", "bs ap bf tp", "af bf", "af bp", "sf tf sp", "as as as as as as as ap ap") {
		checkPivot(t, of(form), strings.IndexByte(column(form, 1), 'p'))
	}
	for _, d := range append(fits(), unfit()...) {
		want := -1
		for at := len(d.Steps) - 1; at >= 0; at-- {
			if d.Steps[at].Class == 2 {
				want = at
			}
		}
		checkPivot(t, d, want)
	}
	checkPivot(t, api.Def{}, -1)
	checkPivot(t, api.Def{Name: "x", Steps: []api.Step{}}, -1)
}

// TestPivotOfEach is of P21.1: each set of places at which a pivot is.
func TestPivotOfEach(t *testing.T) {
	for _, rest := range []int{api.Soft, api.Firm, 0, 4, -2, math.MaxInt, 1<<32 + 2} {
		for set := range 1 << 8 {
			d := api.Def{Steps: make([]api.Step, 8)}
			want := -1
			for at := 7; at >= 0; at-- {
				d.Steps[at] = api.Step{Op: 2, Class: rest, Tries: 2, Base: 2, Cap: 2, Wait: 2}
				if set>>at&1 == 1 {
					d.Steps[at].Class = api.Pivot
					want = at
				}
			}
			checkPivot(t, d, want)
		}
	}
}

// checkSame holds Same of two definitions against what is wanted, either way.
func checkSame(t *testing.T, a, b api.Def, want bool) {
	t.Helper()
	if got, back := def.Same(a, b), def.Same(b, a); got != want || back != want {
		t.Errorf("Same is %t and %t of %.300v and %.300v", got, back, a, b)
	}
}

// TestSame is of P21.1: definitions that are the same, fit or not, in other memory
// and with room behind them.
func TestSame(t *testing.T) {
	for _, d := range append(fits(), unfit()...) {
		checkSame(t, d, d, true)
		other := api.Def{Name: strings.Clone(d.Name), Steps: slices.Grow(slices.Clone(d.Steps), 9)}
		checkSame(t, d, other, true)
	}
	for _, name := range []string{"", "x", "X", "\xff", "\x00"} {
		checkSame(t, api.Def{Name: name}, api.Def{Name: name, Steps: []api.Step{}}, true)
		checkSame(t, api.Def{Name: name}, api.Def{Name: name, Steps: make([]api.Step, 0, 6)}, true)
		checkSame(t, api.Def{Name: name}, api.Def{Name: name, Steps: make([]api.Step, 1)}, false)
		checkSame(t, api.Def{Name: name, Steps: []api.Step{}}, api.Def{Name: name, Steps: make([]api.Step, 1)}, false)
	}
}

// TestSameOfOtherName is of P21.1: definitions that differ in the Name alone.
func TestSameOfOtherName(t *testing.T) {
	names := append(goodNames(), badNames()...)
	for _, form := range append(some(), "", "hs", "ts as") {
		for i, a := range names {
			for j, b := range names {
				checkSame(t, called(a, of(form)), called(b, of(form)), i == j)
			}
		}
	}
}

// TestSameOfOtherField is of P21.1: definitions that differ in one field of one
// step.
func TestSameOfOtherField(t *testing.T) {
	for _, form := range append(forms(), "hs", "as as", "ts as", "hs as ks bp sf tf af bf") {
		for _, d := range edges(form) {
			for at := range d.Steps {
				for _, field := range fields() {
					was := *field(&d.Steps[at])
					for _, n := range []int{was - 1, was + 1, ^was, was + 1<<32, was + 1<<8, was ^ math.MinInt, math.MaxInt, math.MinInt} {
						checkSame(t, d, change(d, at, field, n), false)
					}
				}
			}
		}
	}
}

// TestSameOfOtherSteps is of P21.1: definitions that differ in the number or the
// order of their Steps.
func TestSameOfOtherSteps(t *testing.T) {
	for _, form := range append(forms(), "as as", "hs as ks bp sf tf af bf") {
		d := of(form)
		for at := range d.Steps {
			checkSame(t, d, api.Def{Name: d.Name, Steps: d.Steps[:at]}, false)
			checkSame(t, d, api.Def{Name: d.Name, Steps: slices.Delete(slices.Clone(d.Steps), at, at+1)}, false)
			checkSame(t, d, api.Def{Name: d.Name, Steps: slices.Insert(slices.Clone(d.Steps), at, d.Steps[at])}, false)
			checkSame(t, d, api.Def{Name: d.Name, Steps: slices.Insert(slices.Clone(d.Steps), at, api.Step{})}, false)
			for with := range at {
				swapped := slices.Clone(d.Steps)
				swapped[at], swapped[with] = swapped[with], swapped[at]
				checkSame(t, d, api.Def{Name: d.Name, Steps: swapped}, false)
			}
		}
		checkSame(t, d, api.Def{Name: d.Name, Steps: append(slices.Clone(d.Steps), api.Step{})}, false)
		checkSame(t, d, api.Def{Name: d.Name}, false)
		checkSame(t, d, api.Def{}, false)
	}
}

// TestSameOfEach is of P21.1: each two of the forms there are.
func TestSameOfEach(t *testing.T) {
	for i, a := range forms() {
		for j, b := range forms() {
			checkSame(t, of(a), of(b), i == j)
		}
	}
}
