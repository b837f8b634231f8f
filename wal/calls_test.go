package wal_test

import (
	"slices"
	"strings"
	"testing"

	"drayman/api"
	"drayman/disk"
	"drayman/wal"
)

// begun is a log on a blank disk, and the same one kept apart.
func begun(t *testing.T, total int) (*wal.Log, *disk.Disk, *plain) {
	t.Helper()
	d := loaded(t, slices.Repeat([]string{blank()}, total))
	return opened(t, d, api.Kept{}), d, fresh(total)
}

// resumed is the log of a disk that has a superblock, and what stands in the
// first sectors of its Check and of its Log.
func resumed(t *testing.T, total int, x api.Super, used int, kept api.Kept, check, log []string) (*wal.Log, *disk.Disk, *plain) {
	t.Helper()
	p := &plain{sectors: laid(total, x, check, log), now: x, num: x.Base + len(kept.Batches), used: used, kept: kept}
	d := loaded(t, p.sectors)
	return wantOpen(t, d, p), d, p
}

// sized is a record whose batch has n bytes of frames.
func sized(n int) string { return bytesOf(n - 6) }

// TestNoLog is of P10.1 to P10.4: calls of a nil Log, and of one that Open did
// not return.
func TestNoLog(t *testing.T) {
	for _, l := range []*wal.Log{nil, new(wal.Log), {}} {
		for _, records := range [][]string{nil, {}, {""}, {"a"}, {bytesOf(4097)}, slices.Repeat([]string{"a"}, 3000)} {
			if err := l.Append(records...); err != api.ErrArg {
				t.Errorf("Append of no log has the error %d", err)
			}
		}
		for _, n := range []int{0, 1, 104, 52416, 52417} {
			if err := l.Check(bytesOf(n)); err != api.ErrArg {
				t.Errorf("Check of no log has the error %d", err)
			}
		}
		wantNums(t, l, 0, 0, 0)
	}
}

// TestAppend is of P10.2: one batch behind the other, of one record and of
// several, of one sector and of many, with and without room in the log.
func TestAppend(t *testing.T) {
	for _, total := range []int{10, 18, 26, 58, 506, 512} {
		l, d, p := begun(t, total)
		for _, records := range [][]string{
			{"a"}, {"b", "c"}, {"\x00"}, {strings.Repeat("\x00", 300)}, {bytesOf(98)}, {bytesOf(99)}, {"d", bytesOf(500), "e"},
			{sized(832)}, {"f"}, {sized(1664)}, {bytesOf(4096)}, {"g"}, slices.Repeat([]string{"h"}, 50), {"i"},
		} {
			wantCall(t, l, d, p, app(records...))
			wantOpen(t, d, p)
		}
		wantNums(t, wantOpen(t, d, p), p.num, p.now.Gen, segments(total)-len(p.now.Log))
	}
}

// TestAppendOfWrong is of P10.2: no records, and records of which one is no
// record or which have too many bytes. Nothing is changed.
func TestAppendOfWrong(t *testing.T) {
	most := slices.Repeat([]string{bytesOf(4090)}, 4) // 16384 bytes of frames
	for _, total := range []int{10, 200} {
		l, d, p := begun(t, total)
		wantCall(t, l, d, p, app("a"))
		for _, c := range []struct {
			records []string
			err     api.Errno
		}{
			{nil, api.ErrArg}, {[]string{}, api.ErrArg}, {[]string{""}, api.ErrArg}, {[]string{"a", ""}, api.ErrArg}, {[]string{"", "a"}, api.ErrArg},
			{[]string{bytesOf(4097)}, api.ErrArg}, {[]string{"a", bytesOf(4097), "b"}, api.ErrArg}, {[]string{bytesOf(1 << 16)}, api.ErrArg},
			{append(slices.Clone(most), ""), api.ErrArg}, {append(slices.Clone(most), bytesOf(4097)), api.ErrArg},
			{append(slices.Clone(most), "a"), api.ErrLong}, {slices.Repeat([]string{"a"}, 2341), api.ErrLong},
			{append(slices.Clone(most[:3]), bytesOf(4091)), api.ErrLong},
		} {
			ops := d.Ops()
			if err := l.Append(c.records...); err != c.err || d.Ops() != ops {
				t.Fatalf("Append of %s has the error %d, want %d", short(c.records), err, c.err)
			}
			wantLike(t, l, d, p)
		}
		// The log goes on.
		wantCall(t, l, d, p, app("b"))
		wantOpen(t, d, p)
	}
}

// TestAppendOfMost is of P10.2: as many bytes as a batch can have.
func TestAppendOfMost(t *testing.T) {
	most := slices.Repeat([]string{bytesOf(4090)}, 4)
	l, d, p := begun(t, 162) // of 20 segments, which have 160 sectors
	wantCall(t, l, d, p, app(most...))
	if p.used != 158 || l.Free() != 0 {
		t.Fatalf("there are %d sectors", p.used)
	}
	wantOpen(t, d, p)
	wantCall(t, l, d, p, app(sized(209))) // no room: there are 2 sectors
	wantCall(t, l, d, p, app(sized(208)))
	wantCall(t, l, d, p, app("a"))
	wantOpen(t, d, p)
	l, d, p = begun(t, 154)
	wantCall(t, l, d, p, app(most...))
	wantNums(t, l, 0, 1, 18)
	wantOpen(t, d, p)
}

// TestAppendFills is of P10.2 and P10.4: as many sectors as fill the log just,
// one more, which takes a segment more, and more than there is room for.
func TestAppendFills(t *testing.T) {
	for ahead := range 9 {
		for more := -1; more <= 17; more++ {
			for _, total := range []int{10, 18, 26, 34} {
				l, d, p := begun(t, total)
				for range ahead {
					wantCall(t, l, d, p, app("a"))
				}
				n := 8 - ahead + more
				if n < 1 {
					continue
				}
				wantCall(t, l, d, p, app(sized(104*n)))
				need := max(0, (more+7)/8)
				if got := l.Num() == ahead+1; got != (need <= segments(total)-1) {
					t.Fatalf("a batch of %d sectors behind %d, on %d: Append says %t", n, ahead, total, got)
				}
				wantOpen(t, d, p)
				wantCall(t, l, d, p, app(sized(max(7, 104*n-103))))
				wantCall(t, l, d, p, app("b"))
				wantOpen(t, d, p)
			}
		}
	}
}

// TestAppendFull is of P10.2 and P10.7: of a full disk, on which a Check for want
// of room is ErrFull too; and nothing is changed.
func TestAppendFull(t *testing.T) {
	for _, total := range []int{10, 11, 18, 26, 200} {
		l, d, p := begun(t, total)
		for len(p.kept.Batches) < 8*segments(total) {
			wantCall(t, l, d, p, app("a", "bc"))
		}
		wantOpen(t, d, p)
		for _, c := range []call{app("a"), app(bytesOf(4096)), chk(""), chk("a"), chk(bytesOf(52416))} {
			ops := d.Ops()
			if err := c.at(l); err != api.ErrFull || d.Ops() != ops {
				t.Fatalf("%s on a full disk has the error %d", short(c), err)
			}
			wantLike(t, l, d, p)
			wantOpen(t, d, p)
		}
		if err := l.Append(); err != api.ErrArg {
			t.Fatalf("Append of no records has the error %d", err)
		}
		if err := l.Check(bytesOf(52417)); err != api.ErrLong {
			t.Fatalf("Check of too long a base has the error %d", err)
		}
	}
}

// TestAppendErases is of P10.2: the segments that are taken are the first free
// ones, and erased, whatever they have; those that are not taken are not.
func TestAppendErases(t *testing.T) {
	x := api.Super{Gen: 4, Base: 9, Size: 1, CheckGen: 4, Check: []int{1}, Log: []int{4}}
	for _, n := range []int{1, 8, 9, 16, 17, 24, 25, 32} {
		for _, slot := range []string{blank(), filled('x'), superOf(api.Super{Gen: 3, Log: []int{0}}), superOf(api.Super{Gen: 1, Log: []int{2}})} {
			sectors := laid(50, x, parted(4, "b"), nil)
			sectors[1] = slot
			for i, at := range sectorsOf([]int{0, 2, 3, 5}) {
				switch i % 3 {
				case 0:
					sectors[at] = filled('y')
				case 1:
					sectors[at] = batch(10, "a")[0]
				}
			}
			p := &plain{sectors: sectors, now: x, num: 9, kept: api.Kept{Has: true, Base: "b"}}
			d := loaded(t, sectors)
			l := wantOpen(t, d, p)
			wantCall(t, l, d, p, app(sized(104*n)))
			wantOpen(t, d, p)
			wantCall(t, l, d, p, app("b"))
			wantOpen(t, d, p)
		}
	}
}

// TestAppendOver is of P10.2: numbers of batches and Gens up to Most.
func TestAppendOver(t *testing.T) {
	// The last number there is.
	x := api.Super{Gen: 3, Base: api.Most - 2, Log: []int{0}}
	l, d, p := resumed(t, 26, x, 0, api.Kept{}, nil, nil)
	wantCall(t, l, d, p, app("a"))
	wantCall(t, l, d, p, app(sized(832)))
	wantNums(t, l, api.Most, 4, 1)
	wantOpen(t, d, p)
	over := []call{app("b"), app(sized(104 * 17)), app(bytesOf(4096))}
	for _, c := range over {
		if c.at(l) != api.ErrOver {
			t.Fatalf("Append of %s behind number Most is not ErrOver", short(c))
		}
		wantCall(t, l, d, p, c)
	}
	if l.Append() != api.ErrArg || l.Append("") != api.ErrArg || l.Append(slices.Repeat([]string{"a"}, 2341)...) != api.ErrLong {
		t.Fatal("Append of wrong records behind number Most has another error")
	}
	wantOpen(t, d, p)
	// A base may follow, and no batch.
	x = api.Super{Gen: 3, Base: api.Most, Log: []int{0}}
	l, d, p = resumed(t, 26, x, 0, api.Kept{}, nil, nil)
	wantCall(t, l, d, p, chk("base"))
	wantNums(t, l, api.Most, 4, 1)
	wantOpen(t, d, p)
	for _, c := range over {
		wantCall(t, l, d, p, c)
	}
	// The last Gen there is: what has room in the log is appended.
	x = api.Super{Gen: api.Most - 1, Base: 7, Log: []int{0}}
	l, d, p = resumed(t, 26, x, 0, api.Kept{}, nil, nil)
	wantCall(t, l, d, p, app(sized(104*9)))
	wantNums(t, l, 8, api.Most, 1)
	for _, c := range []call{app(sized(104 * 8)), app(sized(104 * 39)), chk("a"), chk("")} {
		if c.at(l) != api.ErrOver {
			t.Fatalf("%s behind Gen Most is not ErrOver", short(c))
		}
		wantCall(t, l, d, p, c)
	}
	if l.Check(bytesOf(52416)) != api.ErrOver || l.Check(bytesOf(52417)) != api.ErrLong {
		t.Fatal("Check of a long base behind Gen Most has another error")
	}
	wantCall(t, l, d, p, app(sized(104*7)))
	wantCall(t, l, d, p, app("b"))
	wantOpen(t, d, p)
}

// TestCheck is of P10.3: bases of any length, on disks of any size, behind
// batches, and behind another base; with room and without.
func TestCheck(t *testing.T) {
	for _, total := range []int{10, 18, 26, 34, 58, 200, 506, 512} {
		for _, size := range []int{0, 1, 103, 104, 105, 208, 209, 831, 832, 833, 1664, 1665, 4096, 16640} {
			l, d, p := begun(t, total)
			wantCall(t, l, d, p, app("a"))
			wantCall(t, l, d, p, chk(bytesOf(size)))
			n := max(1, (size+831)/832)
			if got := l.Gen() == 2; got != (n+1 <= segments(total)-1) {
				t.Fatalf("Check of %d bytes on %d sectors: %t", size, total, got)
			}
			l = wantOpen(t, d, p)
			for _, c := range []call{app("b", "c"), chk("base"), app("d"), app(sized(900)), chk(bytesOf(size)), chk(""), app("e")} {
				wantCall(t, l, d, p, c)
				wantOpen(t, d, p)
			}
		}
	}
}

// TestCheckOfLong is of P10.3: the longest base that there is room for, one byte
// more, the longest there can be, and one byte more than that.
func TestCheckOfLong(t *testing.T) {
	for _, c := range []struct {
		size int
		err  api.Errno
	}{
		{52418, api.ErrLong}, {1 << 20, api.ErrLong}, {52417, api.ErrLong}, {52416, api.ErrFull}, {52416 - 832, api.ErrFull},
		{52416 - 2*832 + 1, api.ErrFull}, {52416 - 2*832, api.OK}, {0, api.ErrFull},
	} {
		l, d, p := begun(t, 512)
		if c.size == 0 { // On a disk that the longest one fills.
			wantCall(t, l, d, p, chk(bytesOf(61*832)))
			wantNums(t, l, 0, 2, 1)
		}
		ops := d.Ops()
		if err := l.Check(bytesOf(c.size)); err != c.err || c.err != api.OK && d.Ops() != ops {
			t.Fatalf("Check of %d bytes has the error %d, want %d", c.size, err, c.err)
		}
		if c.err == api.OK {
			p.check(bytesOf(c.size))
		}
		wantLike(t, l, d, p)
		l = wantOpen(t, d, p)
		wantCall(t, l, d, p, app("a"))
		wantOpen(t, d, p)
	}
	for _, total := range []int{10, 18, 26} {
		l, d, p := begun(t, total)
		wantCall(t, l, d, p, chk(bytesOf(52417)))
		wantCall(t, l, d, p, chk(bytesOf(52416)))
		wantLike(t, l, d, p)
	}
}

// TestCheckErases is of P10.3: the segments that are taken, for the base and for
// the log, are the first free ones, and erased together, whatever they have.
func TestCheckErases(t *testing.T) {
	for _, x := range []api.Super{
		{Gen: 4, Base: 9, Size: 1, CheckGen: 4, Check: []int{1}, Log: []int{4}}, {Gen: 5, Base: 9, Size: 1, CheckGen: 3, Check: []int{0, 5}, Log: []int{6}},
	} {
		for _, size := range []int{0, 1, 832, 833, 1665, 2496, 2497} {
			for _, slot := range []string{blank(), filled('x'), superOf(api.Super{Gen: 3, Log: []int{0}})} {
				sectors := laid(66, x, parted(x.CheckGen, "b"), batch(10, "a"))
				sectors[1-x.Gen%2] = slot
				for i, at := range sectorsOf([]int{2, 3, 7}) {
					sectors[at] = []string{filled('y'), blank(), parted(x.Gen+1, "other")[0]}[i%3]
				}
				p := &plain{sectors: sectors, now: x, num: 10, used: 1, kept: api.Kept{Has: true, Base: "b", Batches: [][]string{{"a"}}}}
				d := loaded(t, sectors)
				l := wantOpen(t, d, p)
				wantCall(t, l, d, p, chk(bytesOf(size)))
				wantOpen(t, d, p)
				wantCall(t, l, d, p, app("b"))
				wantOpen(t, d, p)
			}
		}
	}
}

// TestCourses is of P10.1 to P10.4, P10.6 and P10.7: long courses of calls, with
// the log opened anew now and then, on disks of several sizes.
func TestCourses(t *testing.T) {
	for _, total := range []int{10, 18, 26, 34, 50, 130} {
		for seed := range 12 {
			l, d, p := begun(t, total)
			next := chance(seed)
			for range 120 {
				wantCall(t, l, d, p, someCall(next))
				if next(4) == 0 {
					l = wantOpen(t, d, p)
				}
			}
		}
	}
}

// chance answers numbers below n that are spread, the same ones each time.
func chance(seed int) func(n int) int {
	x := uint32(seed)*2654435761 + 12345
	return func(n int) int {
		x = x*1664525 + 1013904223
		return int(x>>8) % n
	}
}

// someCall is an Append or a Check; mostly short ones, and some that are wrong.
func someCall(next func(int) int) call {
	switch next(12) {
	case 0:
		return app()
	case 1:
		return app("a", "", "b")
	case 2, 3:
		return chk(bytesOf(next(120)))
	case 4:
		return chk(bytesOf(next(2500)))
	case 5:
		return app(bytesOf(1 + next(2500)))
	case 6, 7:
		return app(bytesOf(1+next(300)), bytesOf(1+next(9)))
	}
	return app(bytesOf(1 + next(90)))
}

// TestSameMemory is of rules 0.5 and 7: the records that are handed in stay, and
// what Open tells is not shared between two calls.
func TestSameMemory(t *testing.T) {
	l, d, p := begun(t, 50)
	records := []string{"a", bytesOf(200), "c"}
	wantCall(t, l, d, p, app(records[:2]...))
	if !slices.Equal(records, []string{"a", bytesOf(200), "c"}) {
		t.Fatalf("Append changes its records")
	}
	records[0] = "z"
	_, one, _ := wal.Open(d)
	one.Batches[0][0] = "y"
	one.Batches = append(one.Batches[:0], []string{"x"})
	wantOpen(t, d, p)
	wantLike(t, l, d, p)
}
