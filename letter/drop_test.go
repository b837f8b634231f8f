package letter_test

import (
	"math"
	"slices"
	"testing"

	"drayman/api"
	"drayman/letter"
)

// wantDrop is the reference of Drop.
func wantDrop(l []api.Letter, saga int) ([]api.Letter, api.Errno) {
	if !wantFit(l) {
		return nil, api.ErrBad
	}
	var rest []api.Letter
	for _, x := range l {
		if x.Saga != saga {
			rest = append(rest, x)
		}
	}
	if len(rest) == len(l) {
		return nil, api.ErrNone
	}
	return rest, api.OK
}

// checkDrop holds Drop against its reference, looks at its memory, and puts back
// what was dropped.
func checkDrop(t *testing.T, l []api.Letter, saga int) api.Errno {
	t.Helper()
	what := "Drop(" + short(l) + ")"
	want, wantErr := wantDrop(l, saga)
	got, err := letter.Drop(l, saga)
	checkAnswer(t, what, got, err, want, wantErr)
	if err == api.OK {
		if found, is := letter.Find(got, saga); is || found != (api.Letter{}) {
			t.Fatalf("%s of %d is %s, where it is found", what, saga, short(got))
		}
		x, _ := letter.Find(l, saga)
		before, err := letter.Put(got, x)
		checkAnswer(t, "Put behind "+what, before, err, l, api.OK)
	}
	checkMemory(t, "Drop", l, func(l []api.Letter) ([]api.Letter, api.Errno) { return letter.Drop(l, saga) })
	return err
}

// TestDrop is of P19.2 and P19.3: in lists of each length each letter, and sagas
// that have none: ahead of all, behind all and between two.
func TestDrop(t *testing.T) {
	for many := range 17 {
		for _, l := range kinds(many) {
			dropped := 0
			for _, saga := range sagasFor(l) {
				if checkDrop(t, l, saga) == api.OK {
					dropped++
				}
			}
			if dropped != many {
				t.Fatalf("of %s are dropped %d", short(l), dropped)
			}
			for i, x := range l {
				if got, err := letter.Drop(l, x.Saga); err != api.OK || !slices.Equal(got, slices.Delete(slices.Clone(l), i, i+1)) {
					t.Fatalf("Drop(%s; %d) is %s, %d", short(l), x.Saga, short(got), err)
				}
			}
		}
	}
}

// TestDropOfFew is of P19.2: what is left, written out.
func TestDropOfFew(t *testing.T) {
	a, b, c := le(5), api.Letter{Saga: 6, Step: 3, Back: true, Why: 7, At: 4}, le(9)
	l := []api.Letter{a, b, c}
	for _, x := range []struct {
		saga int
		left []api.Letter
		want api.Errno
	}{
		{5, []api.Letter{b, c}, api.OK}, {6, []api.Letter{a, c}, api.OK}, {9, []api.Letter{a, b}, api.OK},
		{4, nil, api.ErrNone}, {7, nil, api.ErrNone}, {8, nil, api.ErrNone}, {10, nil, api.ErrNone}, {1, nil, api.ErrNone}, {0, nil, api.ErrNone},
		{-5, nil, api.ErrNone}, {1<<32 + 5, nil, api.ErrNone}, {256 + 5, nil, api.ErrNone}, {most, nil, api.ErrNone}, {most + 1, nil, api.ErrNone},
		{math.MinInt, nil, api.ErrNone}, {math.MaxInt, nil, api.ErrNone},
	} {
		checkErr(t, "Drop", checkDrop(t, l, x.saga), x.want)
		if got, _ := letter.Drop(l, x.saga); !slices.Equal(got, x.left) {
			t.Errorf("Drop(%s; %d) is %s", short(l), x.saga, short(got))
		}
	}
	for _, none := range [][]api.Letter{nil, {}, l[:0]} {
		for _, saga := range []int{0, 1, 5, most, math.MinInt} {
			checkErr(t, "Drop from none", checkDrop(t, none, saga), api.ErrNone)
		}
	}
}

// TestDropOfTheOnly is of P19.2: the list's only letter, at each edge of sagas,
// and those beside it.
func TestDropOfTheOnly(t *testing.T) {
	for _, saga := range goodSagas() {
		l := []api.Letter{le(saga)}
		if got, err := letter.Drop(l, saga); err != api.OK || len(got) != 0 {
			t.Errorf("of the only letter is left %s, %d", short(got), err)
		}
		checkErr(t, "Drop of the only letter", checkDrop(t, l, saga), api.OK)
		for _, other := range []int{saga - 1, saga + 1, saga + 1<<32, -saga, 0} {
			checkErr(t, "Drop of one beside it", checkDrop(t, l, other), api.ErrNone)
		}
	}
}

// TestDropFromUnfit is of P19.2: a list that is not fit, with a saga that has a
// letter in it or none.
func TestDropFromUnfit(t *testing.T) {
	for _, l := range append(unfit(), messy()...) {
		for _, saga := range []int{0, 5, 10, 160, -1, most, most + 1, l[0].Saga, l[len(l)/2].Saga, l[len(l)-1].Saga} {
			if got, err := letter.Drop(l, saga); err != api.ErrBad || got != nil {
				t.Fatalf("Drop(%s; %d) is %s, %d", short(l), saga, short(got), err)
			}
		}
	}
	for _, l := range slices.Concat(messy(), kinds(17), disordered()[:12]) {
		for _, saga := range sagasFor(l[:2]) {
			checkErr(t, "Drop from what is not fit", checkDrop(t, l, saga), api.ErrBad)
		}
	}
}
