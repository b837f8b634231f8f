package segs_test

import (
	"math"
	"slices"
	"strings"
	"testing"

	"drayman/api"
	"drayman/disk"
	"drayman/segs"
)

// blank is a blank sector.
func blank() string { return strings.Repeat("\x00", 128) }

// filled is a sector of one byte.
func filled(b byte) string { return strings.Repeat(string([]byte{b}), 128) }

// speck is a blank sector but for one bit of one byte.
func speck(at int) string {
	b := make([]byte, 128)
	b[at] = 1 << (at % 8)
	return string(b)
}

// plain is what a disk shows, kept apart from it: its sectors, its pending
// writes, what is read from it, how many operations there were, how many are
// left till it stops, and whether it is stopped.
type plain struct {
	sectors, now []string
	waits        []api.Write
	ops, left    int
	dead         bool
}

// operate counts an operation, and reports whether it is performed.
func (p *plain) operate() bool {
	p.ops++
	p.left--
	p.dead = p.left == 0
	return !p.dead
}

// write makes a write pending, unless the disk stops at it.
func (p *plain) write(at int, s string) api.Errno {
	if !p.operate() {
		return api.ErrDead
	}
	p.now[at] = s
	p.waits = append(p.waits, api.Write{At: at, Data: s})
	return api.OK
}

// erase is the chapter's Erase.
func (p *plain) erase(l []int) api.Errno {
	written := 0
	for _, at := range l {
		switch {
		case p.dead:
			return api.ErrDead
		case at < 0 || at >= len(p.sectors):
			return api.ErrRange
		case p.now[at] == blank():
			continue
		}
		if p.write(at, blank()) != api.OK {
			return api.ErrDead
		}
		written++
	}
	if written == 0 {
		return api.OK
	}
	if !p.operate() {
		return api.ErrDead
	}
	p.sectors, p.waits = slices.Clone(p.now), nil
	return api.OK
}

// stored are sectors of a disk: blank ones, full ones, and some of which one
// byte only is not 0.
func stored(n int) []string {
	l := make([]string, n)
	for i := range l {
		switch i % 6 {
		case 0:
			l[i] = filled(byte('a' + i%26))
		case 2:
			l[i] = speck(0)
		case 3:
			l[i] = speck(127)
		case 5:
			l[i] = speck(64 + i%60)
		default:
			l[i] = blank()
		}
	}
	return l
}

// both are a disk and what it has to show: with sectors, writes that are
// pending, and the operation from then on at which it stops.
func both(t *testing.T, sectors []string, waits []api.Write, fuse int) (*disk.Disk, *plain) {
	t.Helper()
	d, err := disk.Load(sectors)
	if err != api.OK {
		t.Fatalf("Load has the error %d", err)
	}
	p := &plain{sectors: slices.Clone(sectors), now: slices.Clone(sectors)}
	for _, w := range waits {
		if err := d.Write(w.At, w.Data); err != api.OK {
			t.Fatalf("Write has the error %d", err)
		}
		p.write(w.At, w.Data)
	}
	d.Fuse(fuse)
	p.left = fuse
	return d, p
}

// wantDisk holds a disk against what it has to show.
func wantDisk(t *testing.T, d *disk.Disk, p *plain) {
	t.Helper()
	if got := d.Sectors(); !slices.Equal(got, p.sectors) {
		t.Fatalf("the sectors are %.8q, want %.8q", got, p.sectors)
	}
	if got := d.Waits(); !slices.Equal(got, p.waits) {
		t.Fatalf("the pending writes are %.8v, want %.8v", got, p.waits)
	}
	if d.Ops() != p.ops || d.Dead() != p.dead {
		t.Fatalf("there were %d operations, stopped: %t; want %d, %t", d.Ops(), d.Dead(), p.ops, p.dead)
	}
}

// wantErase erases, and holds the error and the disk against what is wanted.
func wantErase(t *testing.T, d *disk.Disk, p *plain, l ...int) {
	t.Helper()
	want := p.erase(l)
	if got := segs.Erase(d, l...); got != want {
		t.Fatalf("Erase(%d) is %d, want %d", l, got, want)
	}
	wantDisk(t, d, p)
}

// TestErase is of P9.2: on five sectors, of which 1 and 4 are blank, which ones
// are written, how many operations it takes, and the error.
func TestErase(t *testing.T) {
	a, first, last := filled('a'), speck(0), speck(127)
	for _, c := range []struct {
		l      []int
		err    api.Errno
		ops    int
		erased []int // and flushed
		waits  []int
	}{
		{nil, api.OK, 0, nil, nil}, {[]int{}, api.OK, 0, nil, nil},
		{[]int{1}, api.OK, 0, nil, nil}, {[]int{4, 1}, api.OK, 0, nil, nil}, {[]int{1, 1, 4, 1}, api.OK, 0, nil, nil},
		{[]int{0}, api.OK, 2, []int{0}, nil}, {[]int{2}, api.OK, 2, []int{2}, nil}, {[]int{3}, api.OK, 2, []int{3}, nil},
		{[]int{0, 2}, api.OK, 3, []int{0, 2}, nil}, {[]int{3, 2, 0}, api.OK, 4, []int{0, 2, 3}, nil},
		{[]int{0, 0}, api.OK, 2, []int{0}, nil}, {[]int{2, 0, 2, 0, 2}, api.OK, 3, []int{0, 2}, nil},
		{[]int{1, 0, 4}, api.OK, 2, []int{0}, nil}, {[]int{0, 1, 4}, api.OK, 2, []int{0}, nil}, {[]int{1, 4, 3}, api.OK, 2, []int{3}, nil},
		{[]int{0, 1, 2, 3, 4}, api.OK, 4, []int{0, 2, 3}, nil},
		{[]int{-1}, api.ErrRange, 0, nil, nil}, {[]int{5}, api.ErrRange, 0, nil, nil}, {[]int{math.MaxInt}, api.ErrRange, 0, nil, nil},
		{[]int{math.MinInt}, api.ErrRange, 0, nil, nil}, {[]int{1 << 32}, api.ErrRange, 0, nil, nil}, {[]int{512, 0}, api.ErrRange, 0, nil, nil},
		{[]int{5, 0, 2}, api.ErrRange, 0, nil, nil}, {[]int{0, 5}, api.ErrRange, 1, nil, []int{0}}, {[]int{0, -1, 2}, api.ErrRange, 1, nil, []int{0}},
		{[]int{2, 0, 5}, api.ErrRange, 2, nil, []int{2, 0}}, {[]int{1, 5}, api.ErrRange, 0, nil, nil}, {[]int{3, 1, 3, 5, 0}, api.ErrRange, 1, nil, []int{3}},
	} {
		sectors := []string{a, blank(), first, last, blank()}
		d, p := both(t, sectors, nil, 0)
		if err := segs.Erase(d, c.l...); err != c.err {
			t.Fatalf("Erase(%d) is %d, want %d", c.l, err, c.err)
		}
		for _, at := range c.erased {
			p.sectors[at] = blank()
		}
		for _, at := range c.waits {
			p.waits = append(p.waits, api.Write{At: at, Data: blank()})
		}
		p.ops = c.ops
		wantDisk(t, d, p)
	}
}

// TestErasePending is of P9.2: it is the last pending write to a sector that
// counts, and not the sector; and what is pending elsewhere is flushed with it,
// if there was a sector that was not blank, and else is not.
func TestErasePending(t *testing.T) {
	a, b := filled('a'), filled('b')
	for _, c := range []struct {
		l      []int
		ops    int
		after  []string
		waits  int
		before []api.Write
	}{
		{[]int{0}, 0, []string{a, blank()}, 1, []api.Write{{At: 0, Data: blank()}}},
		{[]int{0, 1}, 0, []string{a, blank()}, 1, []api.Write{{At: 0, Data: blank()}}},
		{[]int{0}, 2, []string{blank(), blank()}, 0, []api.Write{{At: 0, Data: b}}},
		{[]int{0}, 2, []string{blank(), blank()}, 0, []api.Write{{At: 0, Data: blank()}, {At: 0, Data: b}}},
		{[]int{0}, 0, []string{a, blank()}, 2, []api.Write{{At: 0, Data: b}, {At: 0, Data: blank()}}},
		{[]int{1}, 2, []string{a, blank()}, 0, []api.Write{{At: 1, Data: b}}},
		{[]int{1}, 2, []string{a, blank()}, 0, []api.Write{{At: 1, Data: speck(127)}}},
		{[]int{1}, 0, []string{a, blank()}, 2, []api.Write{{At: 1, Data: b}, {At: 1, Data: blank()}}},
		{[]int{1}, 0, []string{a, blank()}, 1, []api.Write{{At: 0, Data: b}}},
		{nil, 0, []string{a, blank()}, 1, []api.Write{{At: 0, Data: b}}},
		{[]int{0}, 2, []string{blank(), b}, 0, []api.Write{{At: 1, Data: b}}},
		{[]int{1, 0}, 3, []string{blank(), blank()}, 0, []api.Write{{At: 1, Data: b}}},
	} {
		d, _ := both(t, []string{a, blank()}, c.before, 0)
		ops := d.Ops()
		if err := segs.Erase(d, c.l...); err != api.OK {
			t.Fatalf("Erase(%d) has the error %d", c.l, err)
		}
		wantDisk(t, d, &plain{sectors: c.after, waits: c.before[:c.waits], ops: ops + c.ops})
	}
}

// pendings are writes that are pending ahead of an Erase.
func pendings() [][]api.Write {
	return [][]api.Write{
		nil,
		{{At: 0, Data: blank()}},
		{{At: 1, Data: filled('x')}},
		{{At: 4, Data: filled('x')}, {At: 0, Data: filled('y')}},
		{{At: 1, Data: speck(127)}, {At: 1, Data: blank()}, {At: 2, Data: blank()}, {At: 2, Data: speck(5)}},
	}
}

// TestEraseOfAny is of P9.2 and P9.4: all lists of up to four sectors of a disk
// of five, and beyond it, with and without pending writes, of a disk that stops
// at each operation, or does not.
func TestEraseOfAny(t *testing.T) {
	lists := [][]int{nil}
	for i := 0; len(lists[i]) < 4; i++ {
		for at := -1; at <= 5; at++ {
			lists = append(lists, append(slices.Clone(lists[i]), at))
		}
	}
	for _, waits := range pendings() {
		for _, l := range lists {
			for fuse := range len(l) + 3 {
				d, p := both(t, stored(5), waits, fuse)
				wantErase(t, d, p, l...)
				// And once more, on what the first left.
				wantErase(t, d, p, l...)
			}
		}
	}
}

// TestEraseOfStopped is of P9.2: of a disk that is stopped already.
func TestEraseOfStopped(t *testing.T) {
	for _, l := range [][]int{nil, {0}, {1}, {9}, {-1, 0}, {1, 1}, {0, 9}} {
		for _, waits := range pendings() {
			d, p := both(t, stored(5), waits, 1)
			if d.Flush() != api.ErrDead || p.operate() {
				t.Fatal("the disk is not stopped")
			}
			wantErase(t, d, p, l...)
			if len(l) > 0 && segs.Erase(d, l...) != api.ErrDead {
				t.Fatalf("Erase(%d) of a stopped disk is not ErrDead", l)
			}
		}
	}
}

// TestEraseOfNoDisk is of P9.2: of a disk that package disk did not make.
func TestEraseOfNoDisk(t *testing.T) {
	for _, d := range []*disk.Disk{nil, new(disk.Disk)} {
		for _, l := range [][]int{{0}, {1, 2}, {-1}, {math.MaxInt}} {
			if err := segs.Erase(d, l...); err != api.ErrArg {
				t.Errorf("Erase(%d) of no disk is %d", l, err)
			}
		}
		if err := segs.Erase(d); err != api.OK {
			t.Errorf("Erase of no sector is %d", err)
		}
	}
}

// TestEraseOfSegments is of P9.4: of each segment of disks of several sizes, and
// of all of them together; the others keep what they have.
func TestEraseOfSegments(t *testing.T) {
	for _, total := range []int{10, 11, 18, 20, 26, 200, 505, 506, 512} {
		lists := [][]int{nil, upTo(segs.Count(total))}
		for k := range segs.Count(total) {
			lists = append(lists, []int{k})
		}
		for _, l := range lists {
			d, p := both(t, slices.Repeat([]string{filled('z')}, total), nil, 0)
			wantErase(t, d, p, segs.Sectors(l...)...)
			for at, s := range d.Sectors() {
				if got := slices.Contains(l, (at-2)/8) && at >= 2; (s == blank()) != got {
					t.Fatalf("sector %d of %d is %.8q behind Erase of the segments %d", at, total, s, l)
				}
			}
			if n := 8 * len(l); n > 0 && d.Ops() != n+1 {
				t.Fatalf("Erase of %d sectors took %d operations", n, d.Ops())
			}
			// All is blank now: once more takes no operation.
			ops := d.Ops()
			wantErase(t, d, p, segs.Sectors(l...)...)
			if d.Ops() != ops {
				t.Fatalf("Erase of blank sectors took %d operations", d.Ops()-ops)
			}
		}
		// Segments that the disk does not have.
		d, _ := both(t, stored(total), nil, 0)
		if err := segs.Erase(d, segs.Sectors(segs.Count(total))...); err != api.ErrRange && total < 506 {
			t.Fatalf("Erase of a segment that %d sectors do not have is %d", total, err)
		}
	}
}

// TestEraseLasts is of P9.4: what Erase has erased is blank behind every crash,
// and one that stops at any operation, and crashes, whatever is kept and torn,
// leaves the others as they were and can be done again.
func TestEraseLasts(t *testing.T) {
	given := []int{3, 0, 1, 2, 0}
	for fuse := range 7 {
		for kept := range 1 << 4 {
			for _, tear := range []int{0, 1, 64, 127} {
				d, _ := both(t, stored(7), nil, fuse)
				before := segs.Erase(d, given...)
				if want := fuse >= 1 && fuse <= 4; (before == api.ErrDead) != want {
					t.Fatalf("Erase that stops at %d is %d", fuse, before)
				}
				keep := []bool{kept&1 > 0, kept&2 > 0, kept&4 > 0, kept&8 > 0}
				if err := d.Crash(keep, tear); err != api.OK {
					t.Fatalf("Crash has the error %d", err)
				}
				if before == api.OK {
					wantErased(t, d, given)
				}
				if err := segs.Erase(d, given...); err != api.OK {
					t.Fatalf("Erase behind a crash is %d", err)
				}
				wantErased(t, d, given)
			}
		}
	}
}

// wantErased holds a disk of seven sectors against one of which some are blank.
func wantErased(t *testing.T, d *disk.Disk, l []int) {
	t.Helper()
	want := stored(7)
	for _, at := range l {
		want[at] = blank()
	}
	if got := d.Sectors(); !slices.Equal(got, want) {
		t.Fatalf("the sectors are %.8q, want %.8q", got, want)
	}
}

// TestEraseKeepsTheList is of rule 0.5: the list that is handed in stays.
func TestEraseKeepsTheList(t *testing.T) {
	given := []int{3, 1, 0, 3, 2, 9, 77}
	for _, n := range []int{0, 3, 5, 6} {
		d, p := both(t, stored(5), nil, 0)
		wantErase(t, d, p, given[:n]...)
		wantInts(t, "the list", given, []int{3, 1, 0, 3, 2, 9, 77})
	}
}
