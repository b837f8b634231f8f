package inbox_test

import (
	"math"
	"slices"
	"testing"

	"drayman/api"
	"drayman/inbox"
)

// wantMark is the reference of Mark: error by error, and then Low raised as far
// as it goes, with what is left above it.
func wantMark(b api.Box, id int) (api.Box, api.Errno) {
	if !wantFit(b) {
		return api.Box{}, api.ErrBad
	}
	if !amount(id) || id == 0 {
		return api.Box{}, api.ErrArg
	}
	if wantHad(b, id) {
		return api.Box{}, api.ErrOld
	}
	all := append(slices.Clone(b.Above), id)
	if len(all) == full+1 {
		b.Low = slices.Min(all)
	}
	for slices.Contains(all, b.Low+1) {
		b.Low++
	}
	b.Above = slices.DeleteFunc(all, func(n int) bool { return n <= b.Low })
	slices.Sort(b.Above)
	return b, api.OK
}

// checkMark holds Mark against its reference, and looks at what comes of it and
// at its memory.
func checkMark(t *testing.T, b api.Box, id int) api.Errno {
	t.Helper()
	want, wantErr := wantMark(b, id)
	got, err := inbox.Mark(b, id)
	if err != wantErr || !equal(got, want) {
		t.Fatalf("Mark(%s; %d) is %s, %d; want %s, %d", short(b), id, short(got), err, short(want), wantErr)
	}
	if err != api.OK {
		if got.Above != nil {
			t.Fatalf("Mark(%s; %d) tells a list beside %d", short(b), id, err)
		}
	} else {
		checkThere(t, b, got, id)
	}
	checkMemory(t, b, id)
	return err
}

// checkThere reports whether what came of Mark is fit, and has received what was
// marked and what was received before.
func checkThere(t *testing.T, b, got api.Box, id int) {
	t.Helper()
	if !wantFit(got) || !inbox.Fit(got) || got.Service != b.Service || got.Low < b.Low {
		t.Fatalf("Mark(%s; %d) is %s, which is not fit or another's", short(b), id, short(got))
	}
	for _, n := range append(b.Above, id, b.Low, 1) {
		if (n == id || inbox.Had(b, n)) && !inbox.Had(got, n) {
			t.Fatalf("Mark(%s; %d) is %s, which has not received %d", short(b), id, short(got), n)
		}
	}
	if _, err := inbox.Mark(got, id); err != api.ErrOld {
		t.Fatalf("Mark(%s; %d) once more is %d", short(got), id, err)
	}
}

// checkMemory reports what Mark has changed of the box that it was handed, or
// shares with it. It calls anew, since the lists are spoilt.
func checkMemory(t *testing.T, b api.Box, id int) {
	t.Helper()
	list, asItWas := laid(b)
	got, _ := inbox.Mark(list, id)
	if !asItWas() {
		t.Fatalf("Mark(%s; %d) changed what was handed in", short(b), id)
	}
	want := copied(got)
	spoil(list)
	if !equal(got, want) {
		t.Fatalf("Mark(%s; %d) is %s, which is %s when what was handed in is turned", short(b), id, short(want), short(got))
	}
	list, asItWas = laid(b)
	got, _ = inbox.Mark(list, id)
	spoil(got)
	if !asItWas() {
		t.Fatalf("Mark(%s; %d) shares memory with what was handed in", short(b), id)
	}
}

// checkErr holds an error against what is wanted.
func checkErr(t *testing.T, what string, err, want api.Errno) {
	t.Helper()
	if err != want {
		t.Fatalf("%s is %d, not %d", what, err, want)
	}
}

// checkBecomes holds Mark against what is written out.
func checkBecomes(t *testing.T, b api.Box, id, low int, above ...int) {
	t.Helper()
	checkErr(t, "Mark", checkMark(t, b, id), api.OK)
	if got, _ := inbox.Mark(b, id); !equal(got, box(b.Service, low, above...)) {
		t.Fatalf("Mark(%s; %d) is %s", short(b), id, short(got))
	}
}

// TestMark is of P18.2: ahead of all others, between two and behind all, written
// out, for both services.
func TestMark(t *testing.T) {
	for _, service := range []int{api.Pay, api.Carry} {
		b := box(service, 3, 6, 9, 12)
		checkBecomes(t, b, 5, 3, 5, 6, 9, 12)
		checkBecomes(t, b, 7, 3, 6, 7, 9, 12)
		checkBecomes(t, b, 8, 3, 6, 8, 9, 12)
		checkBecomes(t, b, 10, 3, 6, 9, 10, 12)
		checkBecomes(t, b, 11, 3, 6, 9, 11, 12)
		checkBecomes(t, b, 13, 3, 6, 9, 12, 13)
		checkBecomes(t, b, 1<<32+6, 3, 6, 9, 12, 1<<32+6)
		checkBecomes(t, b, most-1, 3, 6, 9, 12, most-1)
		checkBecomes(t, b, most, 3, 6, 9, 12, most)
		checkBecomes(t, b, 4, 4, 6, 9, 12)
		for _, id := range []int{1, 2, 3, 6, 9, 12} {
			checkErr(t, "Mark of what is received", checkMark(t, b, id), api.ErrOld)
		}
		for _, id := range []int{0, -1, -3, most + 1, most + 2, math.MinInt, math.MaxInt} {
			checkErr(t, "Mark of no Id", checkMark(t, b, id), api.ErrArg)
		}
	}
}

// TestMarkOfNext is of P18.2: Low + 1, where there is nothing above, Low + 2, a
// row of numbers without a gap, or a gap.
func TestMarkOfNext(t *testing.T) {
	checkBecomes(t, box(1, 0), 1, 1)
	checkBecomes(t, box(1, 7), 8, 8)
	checkBecomes(t, box(1, 7, 9), 8, 9)
	checkBecomes(t, box(1, 7, 10), 8, 8, 10)
	checkBecomes(t, box(1, 7, 9, 10, 11), 8, 11)
	checkBecomes(t, box(1, 7, 9, 11), 8, 9, 11)
	checkBecomes(t, box(1, 7, 9, 10, 12, 13), 8, 10, 12, 13)
	checkBecomes(t, box(1, 7, 10, 11, 12), 8, 8, 10, 11, 12)
	checkBecomes(t, box(1, 0, 2, 3, 4, 6, 7, 9), 1, 4, 6, 7, 9)
	checkBecomes(t, box(1, 4, 6, 7, 9), 5, 7, 9)
	checkBecomes(t, box(1, 7, 9), 8, 9)
	checkBecomes(t, box(2, 1<<32-1, 1<<32+1), 1<<32, 1<<32+1)
	// A row ends at most at the end of the list, and not with a gap filled.
	checkBecomes(t, box(1, 7, 10), 9, 7, 9, 10)
	checkBecomes(t, box(1, 7, 10, 12), 11, 7, 10, 11, 12)
	for many := range 17 {
		for _, b := range kinds(many) {
			if b.Low < most {
				checkErr(t, "Mark of the next", checkMark(t, b, b.Low+1), api.OK)
			}
		}
		for row := range many + 1 {
			// A row of some numbers behind Low + 1, and others behind a gap.
			b := box(1, 20, append(from(22, row, 1), from(40, many-row, 2)...)...)
			checkBecomes(t, b, 21, 21+row, b.Above[row:]...)
		}
	}
}

// TestMarkAtTheGreatest is of P18.2: about the greatest number, beyond which
// nothing is.
func TestMarkAtTheGreatest(t *testing.T) {
	checkBecomes(t, box(1, 0), most, 0, most)
	checkBecomes(t, box(1, most-1), most, most)
	checkBecomes(t, box(1, most-2), most, most-2, most)
	checkBecomes(t, box(1, most-2), most-1, most-1)
	checkBecomes(t, box(1, most-2, most), most-1, most)
	checkBecomes(t, box(1, most-3, most-1), most, most-3, most-1, most)
	checkBecomes(t, box(1, most-3, most), most-1, most-3, most-1, most)
	checkBecomes(t, box(1, most-3, most-1, most), most-2, most)
	checkBecomes(t, high(16), most-16, most)
	for _, b := range []api.Box{box(1, most), box(2, most)} {
		for _, id := range goodAmounts()[1:] {
			checkErr(t, "Mark where all is received", checkMark(t, b, id), api.ErrOld)
		}
		for _, id := range append(badAmounts(), 0) {
			checkErr(t, "Mark of no Id", checkMark(t, b, id), api.ErrArg)
		}
	}
}

// TestMarkOfEachEdge is of P18.2: into boxes of each kind and length, what
// stands there, what is beside it, and the edges.
func TestMarkOfEachEdge(t *testing.T) {
	done := map[api.Errno]int{}
	for many := range 17 {
		for _, b := range kinds(many) {
			for _, id := range idsFor(b) {
				done[checkMark(t, b, id)]++
			}
			for _, id := range []int{0, -1, most + 1, math.MinInt, math.MaxInt} {
				checkErr(t, "Mark of no Id", checkMark(t, b, id), api.ErrArg)
			}
			for _, id := range append(slices.Clone(b.Above), min(b.Low, 1), b.Low/2, b.Low-1, b.Low) {
				if id > 0 {
					checkErr(t, "Mark of what is received", checkMark(t, b, id), api.ErrOld)
				}
			}
		}
	}
	if done[api.OK] < 1000 || done[api.ErrOld] < 1000 || done[api.ErrArg] < 500 {
		t.Errorf("so many were answered: %v", done)
	}
}

// TestMarkOfTheSeventeenth is of P18.2: where there are 16 above, of an Id that
// is the least, in the midst, and the greatest, with and without a row behind it.
func TestMarkOfTheSeventeenth(t *testing.T) {
	// Without a row: the least one goes, and no more.
	b := box(1, 10, from(20, 16, 2)...)
	checkBecomes(t, b, 11, 11, b.Above...)
	checkBecomes(t, b, 12, 12, b.Above...)
	checkBecomes(t, b, 15, 15, b.Above...)
	checkBecomes(t, b, 18, 18, b.Above...)
	checkBecomes(t, b, 23, 20, append([]int{22, 23}, from(24, 14, 2)...)...)
	checkBecomes(t, b, 35, 20, 22, 24, 26, 28, 30, 32, 34, 35, 36, 38, 40, 42, 44, 46, 48, 50)
	checkBecomes(t, b, 51, 20, append(from(22, 15, 2), 51)...)
	checkBecomes(t, b, 90, 20, append(from(22, 15, 2), 90)...)
	checkBecomes(t, b, most, 20, append(from(22, 15, 2), most)...)
	// Just ahead of the least one, or just behind it: this is passed as well.
	checkBecomes(t, b, 19, 20, b.Above[1:]...)
	checkBecomes(t, b, 21, 22, b.Above[2:]...)
	// A row of all.
	b = box(2, 10, from(20, 16, 1)...)
	checkBecomes(t, b, 11, 11, b.Above...)
	checkBecomes(t, b, 18, 18, b.Above...)
	checkBecomes(t, b, 19, 35)
	checkBecomes(t, b, 36, 36)
	checkBecomes(t, b, 37, 35, 37)
	checkBecomes(t, b, most, 35, most)
	b = box(1, 10, from(12, 16, 1)...)
	checkBecomes(t, b, 11, 27)
	checkBecomes(t, b, 28, 28)
	checkBecomes(t, b, 29, 27, 29)
	// A row, and a gap behind it.
	b = box(1, 10, append(from(20, 3, 1), from(30, 13, 3)...)...)
	checkBecomes(t, b, 19, 22, b.Above[3:]...)
	checkBecomes(t, b, 18, 18, b.Above...)
	checkBecomes(t, b, 23, 23, b.Above[3:]...)
	checkBecomes(t, b, 24, 22, append([]int{24}, b.Above[3:]...)...)
	checkBecomes(t, b, 31, 22, slices.Insert(slices.Clone(b.Above[3:]), 1, 31)...)
	checkBecomes(t, b, 99, 22, append(slices.Clone(b.Above[3:]), 99)...)
	// A row not at the beginning stays.
	b = box(1, 10, append([]int{15, 20}, from(21, 14, 1)...)...)
	checkBecomes(t, b, 12, 12, b.Above...)
	checkBecomes(t, b, 14, 15, b.Above[1:]...)
	checkBecomes(t, b, 17, 15, slices.Insert(slices.Clone(b.Above[1:]), 0, 17)...)
	checkBecomes(t, b, 19, 15, slices.Insert(slices.Clone(b.Above[1:]), 0, 19)...)
	checkBecomes(t, b, 16, 16, b.Above[1:]...)
	// The sixteenth is no seventeenth.
	b = box(1, 10, from(20, 15, 2)...)
	checkBecomes(t, b, 15, 10, append([]int{15}, b.Above...)...)
	checkBecomes(t, b, 35, 10, slices.Insert(slices.Clone(b.Above), 8, 35)...)
	checkBecomes(t, b, 90, 10, append(slices.Clone(b.Above), 90)...)
}

// TestMarkOfEachFull is of P18.2 and P18.4: all boxes that have 16 of 19 numbers
// above, and each Id about them.
func TestMarkOfEachFull(t *testing.T) {
	boxes, marked := 0, 0
	for a := 7; a < 26; a++ {
		for b := a + 1; b < 26; b++ {
			for c := b + 1; c < 26; c++ {
				x := box(1, 5, slices.DeleteFunc(from(7, 19, 1), func(n int) bool { return n == a || n == b || n == c })...)
				boxes++
				for id := 4; id < 29; id++ {
					if checkMark(t, x, id) == api.OK {
						marked++
					}
				}
			}
		}
	}
	if boxes != 969 || marked != 969*(1+3+3) {
		t.Errorf("there are %d boxes, and %d were marked", boxes, marked)
	}
}

// TestMarkOfEach is of P18.2 and P18.4: all boxes of small numbers, and each
// small number.
func TestMarkOfEach(t *testing.T) {
	fit := 0
	for n := range 4 {
		for set := range 1 << 9 {
			b := box(2, n)
			for i := range 9 {
				if set>>i&1 == 1 {
					b.Above = append(b.Above, i)
				}
			}
			if wantFit(b) {
				fit++
			}
			for id := -1; id < 12; id++ {
				checkMark(t, b, id)
			}
		}
	}
	if fit != 128+64+32+16 {
		t.Errorf("fit are %d", fit)
	}
}

// TestMarkOfUnfit is of P18.2: a box that is not fit comes first of the errors,
// whatever is marked.
func TestMarkOfUnfit(t *testing.T) {
	for _, b := range append(unfit(), slices.DeleteFunc(messy(), wantFit)...) {
		ids := []int{0, -1, 1, 3, b.Low, b.Low + 1, most, most + 1}
		if len(b.Above) > 0 {
			ids = append(ids, b.Above[0], b.Above[len(b.Above)-1], b.Above[len(b.Above)-1]+1)
		}
		for _, id := range ids {
			if got, err := inbox.Mark(b, id); err != api.ErrBad || !equal(got, api.Box{}) || got.Above != nil {
				t.Fatalf("Mark(%s; %d) is %s, %d", short(b), id, short(got), err)
			}
		}
		checkMemory(t, b, 3)
	}
	for _, b := range messy() {
		for _, id := range idsFor(b) {
			checkErr(t, "Mark of what is not fit", checkMark(t, b, id), api.ErrBad)
		}
	}
}

// TestMarkOfNoId is of P18.2: what is no Id comes before what is received, which
// all numbers are that are not greater than Low.
func TestMarkOfNoId(t *testing.T) {
	for _, n := range goodAmounts() {
		for _, service := range []int{1, 2} {
			for _, id := range append(badAmounts(), 0) {
				got, err := inbox.Mark(box(service, n), id)
				if err != api.ErrArg || !equal(got, api.Box{}) {
					t.Fatalf("Mark above %d of %d is %s, %d", n, id, short(got), err)
				}
			}
		}
	}
	checkErr(t, "Mark of 1", checkMark(t, box(1, 1), 1), api.ErrOld)
	checkErr(t, "Mark of 1", checkMark(t, box(1, 0), 1), api.OK)
	checkErr(t, "Mark of 0", checkMark(t, box(1, 0), 0), api.ErrArg)
	checkErr(t, "Mark of the greatest", checkMark(t, box(1, 0), most), api.OK)
	checkErr(t, "Mark beyond the greatest", checkMark(t, box(1, 0), most+1), api.ErrArg)
}
