package key_test

import (
	"math"
	"slices"
	"testing"

	"drayman/api"
	"drayman/key"
)

// wantBelow is the reference of Below: the first number in which the keys differ
// counts, and Back is one of them.
func wantBelow(a, b key.Key) bool {
	numbers := func(k key.Key) []int {
		l := []int{k.Saga, k.Step, 0}
		if k.Back {
			l[2] = 1
		}
		return l
	}
	return slices.Compare(numbers(a), numbers(b)) < 0
}

// checkBelow holds Below of two keys, in both orders, against its reference: of two
// different keys exactly one is before the other.
func checkBelow(t *testing.T, a, b key.Key) {
	t.Helper()
	there, back := key.Below(a, b), key.Below(b, a)
	if there != wantBelow(a, b) {
		t.Errorf("Below(%+v, %+v) is %t", a, b, there)
	}
	if back != wantBelow(b, a) {
		t.Errorf("Below(%+v, %+v) is %t", b, a, back)
	}
	if a == b && (there || back) || a != b && there == back {
		t.Errorf("Below(%+v, %+v) is %t, and the other way %t", a, b, there, back)
	}
}

// ascending are keys in their order, fit and not.
func ascending() []key.Key {
	var l []key.Key
	for _, saga := range []int{math.MinInt, math.MinInt + 1, -most, -1, 0, 1, 2, 3, 9, 10, 11, 1<<32 - 1, 1 << 32, most - 1, most, most + 1, math.MaxInt - 1, math.MaxInt} {
		for _, step := range []int{math.MinInt, -1 << 32, -1, 0, 1, 2, 3, 4, 5, 6, 10, 1 << 32, math.MaxInt} {
			l = append(l, of(saga, step, false), of(saga, step, true))
		}
	}
	return l
}

// TestBelow is of P22.1 and P22.3: each two keys of a list that is in its order.
func TestBelow(t *testing.T) {
	l := ascending()
	for i, a := range l {
		for j, b := range l {
			if got := key.Below(a, b); got != (i < j) {
				t.Errorf("Below(%+v, %+v) is %t", a, b, got)
			}
			checkBelow(t, a, b)
		}
	}
}

// TestBelowWrittenOut is of P22.1 and P22.3: keys that differ in one field alone, or
// in several of which the first counts, whichever way the others are.
func TestBelowWrittenOut(t *testing.T) {
	for _, two := range [][2]key.Key{
		{of(1, 2, false), of(2, 2, false)},
		{of(1, 2, true), of(2, 2, true)},
		{of(9, 0, false), of(10, 0, false)},
		{of(most-1, 5, true), of(most, 5, true)},
		{of(3, 0, false), of(3, 1, false)},
		{of(3, 4, true), of(3, 5, true)},
		{of(3, 1, false), of(3, 1, true)},
		{of(1, 0, false), of(1, 0, true)},
		{of(most, 5, false), of(most, 5, true)},
		{of(1, 5, false), of(2, 0, false)},
		{of(1, 5, true), of(2, 0, true)},
		{of(1, 3, true), of(2, 3, false)},
		{of(1, 5, true), of(2, 0, false)},
		{of(1, 0, true), of(2, 5, false)},
		{of(1, 5, false), of(2, 0, true)},
		{of(3, 0, true), of(3, 1, false)},
		{of(3, 4, true), of(3, 5, false)},
		{of(0, 0, false), of(0, 0, true)},
		{of(0, 9, true), of(1, -1, false)},
		{of(-2, 0, false), of(-1, 0, false)},
		{of(7, -2, true), of(7, -1, false)},
		{of(math.MinInt, math.MaxInt, true), of(math.MaxInt, math.MinInt, false)},
		{of(5, math.MinInt, true), of(5, math.MaxInt, false)},
		{of(math.MinInt, 0, false), of(0, 0, false)},
		{of(-1, 0, false), of(math.MaxInt, 0, false)},
	} {
		if a, b := two[0], two[1]; !key.Below(a, b) || key.Below(b, a) {
			t.Errorf("Below(%+v, %+v) is %t, and the other way %t", a, b, key.Below(a, b), key.Below(b, a))
		}
	}
}

// TestBelowOfItself is of P22.1 and P22.3: no key is before itself.
func TestBelowOfItself(t *testing.T) {
	for _, k := range slices.Concat(good(), unfit(), ascending()) {
		if key.Below(k, k) {
			t.Errorf("%+v is before itself", k)
		}
	}
}

// TestBelowOfMany is of P22.1 and P22.3: fit and unfit keys, each with those beside
// it and with some of the others.
func TestBelowOfMany(t *testing.T) {
	all := slices.Concat(good(), unfit())
	for i, a := range all {
		for j := i; j < len(all) && j < i+30; j++ {
			checkBelow(t, a, all[j])
		}
		for j := i % 17; j < len(all); j += 17 {
			checkBelow(t, a, all[j])
		}
	}
}

// TestBelowOfThree is of P22.3: a key before a second which is before a third is
// before the third.
func TestBelowOfThree(t *testing.T) {
	var l []key.Key
	for _, saga := range []int{-1, 0, 1, 2, 10, most} {
		for _, step := range []int{-1, 0, 1, 5} {
			l = append(l, of(saga, step, false), of(saga, step, true))
		}
	}
	rows := 0
	for _, a := range l {
		for _, b := range l {
			for _, c := range l {
				if !key.Below(a, b) || !key.Below(b, c) {
					continue
				}
				rows++
				if !key.Below(a, c) {
					t.Errorf("%+v is before %+v, that before %+v, but not the first before the third", a, b, c)
				}
			}
		}
	}
	// Of 48 keys, in just one order, each three of them make one row.
	if rows != 48*47*46/6 {
		t.Errorf("there are %d rows of three", rows)
	}
}

// TestBelowSorts is of P22.3: keys sorted by Below are in one order, from whatever
// order they are in before.
func TestBelowSorts(t *testing.T) {
	before := func(a, b key.Key) int {
		switch {
		case key.Below(a, b):
			return -1
		case key.Below(b, a):
			return 1
		}
		return 0
	}
	want := ascending()
	for step := 1; step < 30; step += 2 {
		var l []key.Key
		for i := range step {
			for j := i; j < len(want); j += step {
				l = append(l, want[j])
			}
		}
		slices.SortFunc(l, before)
		if !slices.Equal(l, want) {
			t.Errorf("of every %dth key the order is another", step)
		}
	}
}

// TestOfEntry is of P22.1: entries of any key, fit or not, whose other fields are any.
func TestOfEntry(t *testing.T) {
	for _, k := range slices.Concat(few(), unfit(), good()) {
		for _, x := range []api.Entry{{}, {Id: 1, Op: api.OpAuth, Sum: 9}, {Id: 7, Op: api.OpBook, Must: true}, {Id: -1, Op: -1, Sum: -1, Must: true},
			{Id: math.MaxInt, Op: math.MaxInt, Sum: math.MaxInt, Must: true}, {Id: math.MinInt, Op: math.MinInt, Sum: math.MinInt}} {
			x.Saga, x.Step, x.Back = k.Saga, k.Step, k.Back
			if got := key.OfEntry(x); got != k {
				t.Errorf("OfEntry(%+v) is %+v", x, got)
			}
		}
	}
	if got := key.OfEntry(api.Entry{Id: 1, Saga: 2, Step: 3, Back: true, Op: 4, Sum: 5}); got != of(2, 3, true) {
		t.Errorf("the key of saga 2, step 3 and Back is %+v", got)
	}
	if got := key.OfEntry(api.Entry{Id: 1, Saga: 2, Step: 3, Op: 4, Sum: 5, Must: true}); got != of(2, 3, false) {
		t.Errorf("the key of saga 2, step 3 is %+v", got)
	}
}

// TestOfReply is of P22.1: replies of any key, fit or not, whose other fields are any.
func TestOfReply(t *testing.T) {
	for _, k := range slices.Concat(few(), unfit(), good()) {
		for _, r := range []api.Reply{{}, {Service: api.Pay, Id: 1, Msg: 1, Verdict: api.Good}, {Service: api.Carry, Id: 7, Msg: 9, Verdict: api.Never}, {Service: -1, Id: -1, Msg: -1, Verdict: -1},
			{Service: math.MaxInt, Id: math.MaxInt, Msg: math.MaxInt, Verdict: math.MaxInt}, {Service: math.MinInt, Id: math.MinInt, Msg: math.MinInt, Verdict: math.MinInt}} {
			r.Saga, r.Step, r.Back = k.Saga, k.Step, k.Back
			if got := key.OfReply(r); got != k {
				t.Errorf("OfReply(%+v) is %+v", r, got)
			}
		}
	}
	if got := key.OfReply(api.Reply{Service: 1, Id: 4, Saga: 2, Step: 3, Back: true, Msg: 5, Verdict: 6}); got != of(2, 3, true) {
		t.Errorf("the key of saga 2, step 3 and Back is %+v", got)
	}
	if got := key.OfReply(api.Reply{Service: 2, Id: 1, Saga: 3, Step: 2, Msg: 5, Verdict: 6}); got != of(3, 2, false) {
		t.Errorf("the key of saga 3, step 2 is %+v", got)
	}
}

// TestOfBoth is of P22.1: an entry and the reply to it have one key, whichever is
// asked first.
func TestOfBoth(t *testing.T) {
	for _, k := range few() {
		x := api.Entry{Id: 5, Saga: k.Saga, Step: k.Step, Back: k.Back, Op: api.OpTake, Sum: 4}
		r := api.Reply{Service: api.Pay, Id: 5, Saga: k.Saga, Step: k.Step, Back: k.Back, Msg: 6, Verdict: api.Again}
		if key.OfEntry(x) != key.OfReply(r) || key.Text(key.OfReply(r)) != wantText(k) {
			t.Errorf("the entry's key is %+v, the reply's %+v", key.OfEntry(x), key.OfReply(r))
		}
	}
}
