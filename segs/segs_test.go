package segs_test

import (
	"math"
	"slices"
	"testing"

	"drayman/segs"
)

// edges are numbers at and beyond what a segment's number may be.
func edges() []int {
	return []int{math.MinInt, math.MinInt + 1, -1 << 32, -64, -63, -8, -2, -1, 0, 1, 2, 31, 61, 62, 63, 64, 65, 126,
		511, 512, 1 << 8, 1<<8 + 1, 1 << 32, 1<<32 + 1, 1 << 60, 1 << 61, math.MaxInt - 1, math.MaxInt}
}

// totals are numbers at and beyond what a disk's sectors may be.
func totals() []int {
	return []int{math.MinInt, math.MinInt + 1, math.MinInt + 2, math.MinInt + 10, -1 << 32, -513, -512, -10, -2, -1,
		0, 1, 2, 3, 9, 10, 11, 17, 18, 20, 26, 256, 258, 497, 498, 504, 505, 506, 511, 512, 513, 514, 520, 1 << 10,
		1<<32 + 20, 1<<60 + 20, math.MaxInt - 1, math.MaxInt}
}

// wantOf is the eight sectors of segment number k, counted up from segment 0.
func wantOf(k int) []int {
	l := []int{2, 3, 4, 5, 6, 7, 8, 9}
	for range k {
		for i := range l {
			l[i] += 8
		}
	}
	return l
}

// wantHas are the segments of a disk whose eight sectors it has, all of them.
func wantHas(total int) []int {
	var l []int
	if total < 2 || total > 512 {
		return nil
	}
	for k := 0; k < 63 && wantOf(k)[7] < total; k++ {
		l = append(l, k)
	}
	return l
}

// wantInts holds a list that a call answers against what is wanted.
func wantInts(t *testing.T, what string, got, want []int) {
	t.Helper()
	if !slices.Equal(got, want) {
		t.Fatalf("%s is %d, want %d", what, got, want)
	}
}

// TestCount is of P9.1: totals at and beyond the edges.
func TestCount(t *testing.T) {
	for _, c := range []struct{ total, want int }{
		{math.MinInt, 0}, {math.MinInt + 1, 0}, {math.MinInt + 2, 0}, {math.MinInt + 9, 0}, {-1 << 32, 0}, {-14, 0}, {-2, 0}, {-1, 0},
		{0, 0}, {1, 0}, {2, 0}, {3, 0}, {8, 0}, {9, 0}, {10, 1}, {11, 1}, {16, 1}, {17, 1}, {18, 2}, {19, 2}, {20, 2}, {25, 2}, {26, 3},
		{200, 24}, {256, 31}, {257, 31}, {258, 32}, {497, 61}, {498, 62}, {505, 62}, {506, 63}, {507, 63}, {511, 63}, {512, 63},
		{513, 0}, {514, 0}, {522, 0}, {1 << 10, 0}, {1 << 16, 0}, {1<<32 + 20, 0}, {math.MaxInt - 1, 0}, {math.MaxInt, 0},
	} {
		if got := segs.Count(c.total); got != c.want {
			t.Errorf("Count(%d) is %d, want %d", c.total, got, c.want)
		}
	}
}

// TestCountOfEach is of P9.1: as many segments as fit, for each total.
func TestCountOfEach(t *testing.T) {
	for total := -1000; total < 3000; total++ {
		if got, want := segs.Count(total), len(wantHas(total)); got != want {
			t.Errorf("Count(%d) is %d, want %d", total, got, want)
		}
	}
}

// TestSectors is of P9.1: segments that are written out, in any order, some of
// them twice, and numbers of no segment among them.
func TestSectors(t *testing.T) {
	zero := []int{2, 3, 4, 5, 6, 7, 8, 9}
	one := []int{10, 11, 12, 13, 14, 15, 16, 17}
	last := []int{498, 499, 500, 501, 502, 503, 504, 505}
	for _, c := range []struct{ l, want []int }{
		{nil, nil}, {[]int{}, nil}, {[]int{-1}, nil}, {[]int{63}, nil}, {[]int{math.MaxInt}, nil}, {[]int{math.MinInt}, nil},
		{[]int{-1, 63, 64, math.MaxInt, math.MinInt, 1 << 61, 1 << 32}, nil},
		{[]int{0}, zero}, {[]int{1}, one}, {[]int{62}, last},
		{[]int{0, 1}, slices.Concat(zero, one)}, {[]int{1, 0}, slices.Concat(one, zero)},
		{[]int{62, 0, 1}, slices.Concat(last, zero, one)}, {[]int{1, 62, 0}, slices.Concat(one, last, zero)},
		{[]int{1, 1}, slices.Concat(one, one)}, {[]int{0, 62, 0}, slices.Concat(zero, last, zero)},
		{[]int{-1, 1}, one}, {[]int{1, -1}, one}, {[]int{63, 1}, one}, {[]int{1, 63}, one}, {[]int{62, 63}, last},
		{[]int{math.MaxInt, 62, math.MaxInt, -1, 1, 63, 1, math.MinInt}, slices.Concat(last, one, one)},
	} {
		wantInts(t, "Sectors", segs.Sectors(c.l...), c.want)
	}
}

// TestSectorsOfAny is of P9.1: each number, and every two and three edges.
func TestSectorsOfAny(t *testing.T) {
	sectors := func(l ...int) []int {
		var want []int
		for _, k := range l {
			if k >= 0 && k <= 62 {
				want = append(want, wantOf(k)...)
			}
		}
		return want
	}
	for k := -100; k < 600; k++ {
		wantInts(t, "Sectors", segs.Sectors(k), sectors(k))
		wantInts(t, "Sectors", segs.Sectors(k, 62-k, k), sectors(k, 62-k, k))
	}
	for _, a := range edges() {
		for _, b := range edges() {
			wantInts(t, "Sectors", segs.Sectors(a, b), sectors(a, b))
			for _, c := range edges() {
				wantInts(t, "Sectors", segs.Sectors(a, b, c), sectors(a, b, c))
			}
		}
	}
	many := slices.Repeat([]int{5, 70, 5, 0, -1}, 2000)
	wantInts(t, "Sectors", segs.Sectors(many...), sectors(many...))
}

// TestNeed is of P9.1: numbers at and beyond the edges.
func TestNeed(t *testing.T) {
	for _, c := range []struct{ sectors, want int }{
		{math.MinInt, 0}, {math.MinInt + 1, 0}, {-1 << 32, 0}, {-17, 0}, {-9, 0}, {-8, 0}, {-7, 0}, {-1, 0}, {0, 0},
		{1, 1}, {2, 1}, {7, 1}, {8, 1}, {9, 2}, {15, 2}, {16, 2}, {17, 3}, {496, 62}, {497, 63}, {504, 63}, {505, 64}, {512, 64}, {513, 65},
		{1 << 32, 1 << 29}, {1<<32 + 1, 1<<29 + 1}, {1 << 62, 1 << 59}, {math.MaxInt - 8, 1<<60 - 1}, {math.MaxInt - 7, 1<<60 - 1},
		{math.MaxInt - 6, 1 << 60}, {math.MaxInt - 1, 1 << 60}, {math.MaxInt, 1 << 60},
	} {
		if got := segs.Need(c.sectors); got != c.want {
			t.Errorf("Need(%d) is %d, want %d", c.sectors, got, c.want)
		}
	}
}

// TestNeedOfEach is of P9.1: the fewest segments that have so many sectors.
func TestNeedOfEach(t *testing.T) {
	want := 0
	for n := range 20000 {
		for 8*want < n {
			want++
		}
		if got := segs.Need(n); got != want {
			t.Fatalf("Need(%d) is %d, want %d", n, got, want)
		}
		if got := segs.Need(-n); n > 0 && got != 0 {
			t.Fatalf("Need(%d) is %d", -n, got)
		}
	}
	for k := range 64 {
		if got := segs.Need(len(segs.Sectors(slices.Repeat([]int{3}, k)...))); got != k {
			t.Errorf("Need of the sectors of %d segments is %d", k, got)
		}
	}
}

// upTo are the numbers from 0 to n - 1.
func upTo(n int) []int {
	var l []int
	for k := range n {
		l = append(l, k)
	}
	return l
}

// TestFree is of P9.1: disks without segments, with few and with all, of which
// none, some or all are used, some of them twice.
func TestFree(t *testing.T) {
	for _, c := range []struct {
		total   int
		l, want []int
	}{
		{math.MinInt, nil, nil}, {-1, nil, nil}, {0, nil, nil}, {1, []int{0}, nil}, {2, nil, nil}, {9, nil, nil}, {9, []int{0}, nil},
		{513, nil, nil}, {513, []int{0, 1}, nil}, {math.MaxInt, nil, nil},
		{10, nil, []int{0}}, {10, []int{}, []int{0}}, {10, []int{0}, nil}, {10, []int{0, 0}, nil}, {10, []int{1}, []int{0}}, {11, []int{-1}, []int{0}},
		{20, nil, []int{0, 1}}, {20, []int{0}, []int{1}}, {20, []int{1}, []int{0}}, {20, []int{0, 1}, nil}, {20, []int{1, 0}, nil},
		{20, []int{1, 1}, []int{0}}, {20, []int{2, 3, 62}, []int{0, 1}}, {20, []int{0, 2, 0}, []int{1}},
		{34, []int{2}, []int{0, 1, 3}}, {34, []int{3, 1}, []int{0, 2}}, {34, []int{2, 0, 2, 0}, []int{1, 3}}, {34, []int{3, 2, 1, 0, 3}, nil},
		{20, []int{-1, 63, 64, math.MaxInt, math.MinInt, 1 << 32, 1 << 61, 256}, []int{0, 1}},
		{20, []int{math.MinInt, 1, math.MaxInt}, []int{0}},
		{505, nil, upTo(62)}, {512, nil, upTo(63)}, {506, nil, upTo(63)}, {506, []int{62}, upTo(62)}, {512, []int{63}, upTo(63)},
		{512, upTo(62), []int{62}}, {512, upTo(63), nil}, {512, upTo(1000), nil}, {512, upTo(63)[1:], []int{0}}, {505, upTo(63)[1:], []int{0}},
		{512, slices.Repeat([]int{62, 5, 5}, 1000), slices.Concat(upTo(5), upTo(62)[6:])},
	} {
		wantInts(t, "Free", segs.Free(c.total, c.l...), c.want)
	}
}

// TestFreeOfAny is of P9.1: what is left of the segments when those that are
// used are taken away, for each total, and every two edges.
func TestFreeOfAny(t *testing.T) {
	free := func(total int, l ...int) []int {
		return slices.DeleteFunc(wantHas(total), func(k int) bool { return slices.Contains(l, k) })
	}
	for total := -3; total < 520; total++ {
		wantInts(t, "Free", segs.Free(total), free(total))
		for _, k := range edges() {
			l := []int{k, total / 8, 62 - k, k, total % 7}
			wantInts(t, "Free", segs.Free(total, l...), free(total, l...))
		}
	}
	for _, total := range totals() {
		for _, a := range edges() {
			wantInts(t, "Free", segs.Free(total, a), free(total, a))
			for _, b := range edges() {
				wantInts(t, "Free", segs.Free(total, a, b), free(total, a, b))
			}
		}
	}
}

// TestFreeFits is of P9.1: what is free and what is used is each segment once.
func TestFreeFits(t *testing.T) {
	for _, total := range totals() {
		for _, k := range edges() {
			used := slices.DeleteFunc([]int{k, k - 1, k / 2}, func(k int) bool { return k < 0 || k >= segs.Count(total) })
			slices.Sort(used)
			used = slices.Compact(used)
			all := slices.Concat(used, segs.Free(total, used...))
			slices.Sort(all)
			wantInts(t, "what is used and what is free", all, upTo(segs.Count(total)))
		}
	}
}

// TestApart is of P9.3: no two segments share a sector, none contains one of
// the first two, and those of a disk contain none that it does not have.
func TestApart(t *testing.T) {
	var owner [512]int
	for k := range 63 {
		l := segs.Sectors(k)
		if len(l) != 8 || !slices.IsSorted(l) {
			t.Fatalf("segment %d consists of %d", k, l)
		}
		for _, at := range l {
			if at < 2 || at >= 512 {
				t.Fatalf("segment %d contains sector %d", k, at)
			}
			if owner[at] != 0 {
				t.Fatalf("segments %d and %d share sector %d", owner[at]-1, k, at)
			}
			owner[at] = k + 1
		}
	}
	for total := range 513 {
		l := segs.Sectors(segs.Free(total)...)
		slices.Sort(l)
		if len(l) != 8*segs.Count(total) {
			t.Fatalf("the segments of %d sectors have %d", total, len(l))
		}
		// From the third sector on there is no gap, and less than a segment is left.
		for i, at := range l {
			if at != 2+i || at >= total {
				t.Fatalf("the segments of %d sectors have, as sector number %d, %d", total, i, at)
			}
		}
		if left := total - 2 - len(l); left >= 8 && len(l) < 63*8 {
			t.Fatalf("%d sectors of %d are in no segment", left, total)
		}
	}
}

// TestListsStay is of rule 0.5: lists that are handed in stay as they are, and
// what is answered is new.
func TestListsStay(t *testing.T) {
	l := []int{3, 1, 70, 1, -1, 0}
	// Room behind the list, into which nothing may be written.
	given := append(slices.Clone(l), 77, 78)
	for range 2 {
		a, b := segs.Sectors(given[:len(l)]...), segs.Free(50, given[:len(l)]...)
		wantInts(t, "Sectors", a, slices.Concat(wantOf(3), wantOf(1), wantOf(1), wantOf(0)))
		wantInts(t, "Free", b, []int{2, 4, 5})
		wantInts(t, "the list", given, append(slices.Clone(l), 77, 78))
		clear(a)
		clear(b)
		wantInts(t, "the list", given, append(slices.Clone(l), 77, 78))
	}
}
