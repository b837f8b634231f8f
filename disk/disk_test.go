package disk_test

import (
	"math"
	"slices"
	"strings"
	"testing"

	"drayman/api"
	"drayman/disk"
)

// filled is a sector of one byte.
func filled(b byte) string { return strings.Repeat(string([]byte{b}), api.Sector) }

// scattered is a sector of bytes without a short rule, and with all of them
// among several.
func scattered(n int) string {
	b := make([]byte, api.Sector)
	x := uint32(n) + 1
	for i := range b {
		x = next(x)
		b[i] = byte(x >> 13)
	}
	return string(b)
}

// next is the number behind x in a sequence that looks scattered.
func next(x uint32) uint32 { return x*1664525 + 1013904223 }

// list is n sectors, each with bytes of its own.
func list(n int) []string {
	l := make([]string, n)
	for i := range l {
		l[i] = scattered(i)
	}
	return l
}

// fresh is a new disk.
func fresh(t *testing.T, n int) *disk.Disk {
	t.Helper()
	d, err := disk.New(n)
	if err != api.OK || d == nil {
		t.Fatalf("New(%d) has the error %d", n, err)
	}
	return d
}

// loaded is a disk with sectors.
func loaded(t *testing.T, l ...string) *disk.Disk {
	t.Helper()
	d, err := disk.Load(l)
	if err != api.OK || d == nil {
		t.Fatalf("Load of %d sectors has the error %d", len(l), err)
	}
	return d
}

// want holds an error against what is wanted.
func want(t *testing.T, what string, got, want api.Errno) {
	t.Helper()
	if got != want {
		t.Fatalf("%s is %d, want %d", what, got, want)
	}
}

// put writes, and must get OK.
func put(t *testing.T, d *disk.Disk, at int, s string) {
	t.Helper()
	want(t, "Write", d.Write(at, s), api.OK)
}

// wantRead holds what Read answers against what is wanted.
func wantRead(t *testing.T, d *disk.Disk, at int, s string) {
	t.Helper()
	if got, err := d.Read(at); got != s || err != api.OK {
		t.Fatalf("Read(%d) is %q, %d; want %q", at, got, err, s)
	}
}

// wantSectors holds what Sectors answers against what is wanted.
func wantSectors(t *testing.T, d *disk.Disk, l ...string) {
	t.Helper()
	if got := d.Sectors(); !slices.Equal(got, l) {
		t.Fatalf("Sectors() is %q, want %q", got, l)
	}
}

// wantWaits holds what Waits answers against what is wanted.
func wantWaits(t *testing.T, d *disk.Disk, l ...api.Write) {
	t.Helper()
	if got := d.Waits(); !slices.Equal(got, l) {
		t.Fatalf("Waits() is %#v, want %#v", got, l)
	}
}

// wantOps holds what Ops and Dead answer against what is wanted.
func wantOps(t *testing.T, d *disk.Disk, ops int, dead bool) {
	t.Helper()
	if d.Ops() != ops || d.Dead() != dead {
		t.Fatalf("Ops() is %d and Dead() %t, want %d and %t", d.Ops(), d.Dead(), ops, dead)
	}
}

// TestNew is of P5.1.
func TestNew(t *testing.T) {
	for _, n := range []int{math.MinInt, -512, -2, -1, 0, 1, 513, 514, 1024, 1 << 32, 1<<32 + 2, math.MaxInt} {
		if d, err := disk.New(n); d != nil || err != api.ErrRange {
			t.Errorf("New(%d) has a disk (%t) and the error %d, want none and %d", n, d != nil, err, api.ErrRange)
		}
	}
	for _, n := range []int{2, 3, 10, 26, 200, 511, 512} {
		d := fresh(t, n)
		if d.Size() != n || len(d.Sectors()) != n {
			t.Errorf("New(%d) has %d and %d sectors", n, d.Size(), len(d.Sectors()))
		}
		for at, s := range d.Sectors() {
			if s != filled(0) {
				t.Errorf("New(%d): sector %d is %q", n, at, s)
			}
			wantRead(t, d, at, filled(0))
		}
		wantWaits(t, d)
		wantOps(t, d, 0, false)
	}
}

// TestNewTwice is of P5.1: disks have nothing in common.
func TestNewTwice(t *testing.T) {
	a, b := fresh(t, 2), fresh(t, 2)
	put(t, a, 0, filled('a'))
	want(t, "Flush", a.Flush(), api.OK)
	put(t, a, 1, filled('b'))
	a.Fuse(1)
	want(t, "Flush", a.Flush(), api.ErrDead)
	wantSectors(t, b, filled(0), filled(0))
	wantWaits(t, b)
	wantOps(t, b, 0, false)
}

// TestLoad is of P5.1.
func TestLoad(t *testing.T) {
	for _, n := range []int{2, 3, 26, 511, 512} {
		l := list(n)
		d := loaded(t, l...)
		wantSectors(t, d, l...)
		wantWaits(t, d)
		wantOps(t, d, 0, false)
		if d.Size() != n {
			t.Errorf("Load of %d sectors has %d", n, d.Size())
		}
		for at, s := range l {
			wantRead(t, d, at, s)
		}
	}
}

// TestLoadOfWrong is of P5.1: too few or too many sectors come before sectors
// of fewer or more bytes, wherever these are.
func TestLoadOfWrong(t *testing.T) {
	check := func(l []string, wanted api.Errno) {
		t.Helper()
		if d, err := disk.Load(l); d != nil || err != wanted {
			t.Errorf("Load of %d sectors has a disk (%t) and the error %d, want none and %d", len(l), d != nil, err, wanted)
		}
	}
	for _, l := range [][]string{nil, {}, list(1), list(513), list(514), list(2000), {""}, {"a"}, make([]string, 513)} {
		check(l, api.ErrRange)
	}
	whole := filled('a')
	for _, s := range []string{
		"", "a", whole[1:], whole + "a", whole + "\x00", whole + whole, strings.Repeat("ä", api.Sector), whole[:api.Room],
	} {
		check([]string{s, s}, api.ErrLong)
		for _, n := range []int{2, 3, 512} {
			for _, at := range []int{0, 1, n - 1} {
				l := list(n)
				l[at] = s
				check(l, api.ErrLong)
			}
		}
	}
	// Bytes count, not runes.
	l := []string{strings.Repeat("ä", api.Sector/2), strings.Repeat("\xff", api.Sector)}
	wantSectors(t, loaded(t, l...), l...)
}

// TestLoadKeepsNoList is of P5.1: the list is the caller's.
func TestLoadKeepsNoList(t *testing.T) {
	l := list(3)
	d := loaded(t, l...)
	put(t, d, 1, filled('b'))
	want(t, "Flush", d.Flush(), api.OK)
	if !slices.Equal(l, list(3)) {
		t.Errorf("Load's argument was changed to %q", l)
	}
	l[0], l[1] = filled('x'), filled('y')
	wantSectors(t, d, scattered(0), filled('b'), scattered(2))
}

// TestSectorsAndWaits is of P5.1: the sectors without what is pending, and
// what is pending, in order, several writes to one sector among it.
func TestSectorsAndWaits(t *testing.T) {
	d := fresh(t, 3)
	put(t, d, 2, filled('a'))
	put(t, d, 0, filled('b'))
	put(t, d, 2, filled('c'))
	put(t, d, 2, filled('c'))
	wantSectors(t, d, filled(0), filled(0), filled(0))
	wantWaits(t, d, api.Write{At: 2, Data: filled('a')}, api.Write{At: 0, Data: filled('b')},
		api.Write{At: 2, Data: filled('c')}, api.Write{At: 2, Data: filled('c')})
	want(t, "Flush", d.Flush(), api.OK)
	wantSectors(t, d, filled('b'), filled(0), filled('c'))
	wantWaits(t, d)
	put(t, d, 1, filled('d'))
	wantSectors(t, d, filled('b'), filled(0), filled('c'))
	wantWaits(t, d, api.Write{At: 1, Data: filled('d')})
	if d.Size() != 3 {
		t.Errorf("Size() is %d, want 3", d.Size())
	}
}

// TestAnswersAreNew is of P5.1: a list that was answered is the caller's.
func TestAnswersAreNew(t *testing.T) {
	d := loaded(t, list(3)...)
	put(t, d, 1, filled('a'))
	put(t, d, 2, filled('b'))
	sectors, waits := d.Sectors(), d.Waits()
	sectors[0], waits[0] = filled('x'), api.Write{At: 0, Data: "y"}
	_, _ = append(sectors[:1], filled('z')), append(waits[:1], api.Write{})
	wantSectors(t, d, list(3)...)
	wantWaits(t, d, api.Write{At: 1, Data: filled('a')}, api.Write{At: 2, Data: filled('b')})
	sectors, waits = d.Sectors(), d.Waits()
	want(t, "Flush", d.Flush(), api.OK)
	put(t, d, 0, filled('c'))
	if !slices.Equal(sectors, list(3)) || len(waits) != 2 || waits[0].At != 1 || waits[1].At != 2 {
		t.Errorf("what was answered became %q and %#v", sectors, waits)
	}
}

// TestRead is of P5.1: the last pending write to the sector, or the sector.
func TestRead(t *testing.T) {
	d := loaded(t, list(4)...)
	put(t, d, 1, filled('a'))
	put(t, d, 2, filled('b'))
	put(t, d, 1, filled('c'))
	put(t, d, 3, filled('d'))
	put(t, d, 1, filled('e'))
	put(t, d, 3, filled('f'))
	for range 2 {
		for at, s := range []string{scattered(0), filled('e'), filled('b'), filled('f')} {
			wantRead(t, d, at, s)
		}
		want(t, "Flush", d.Flush(), api.OK)
	}
	put(t, d, 1, scattered(9))
	wantRead(t, d, 1, scattered(9))
	// The last one counts, also if it is what the sector has.
	put(t, d, 1, filled('e'))
	wantRead(t, d, 1, filled('e'))
	put(t, d, 1, scattered(8))
	wantRead(t, d, 1, scattered(8))
	want(t, "Crash", d.Crash(nil, 0), api.OK)
	wantRead(t, d, 1, filled('e'))
}

// TestReadOfWrong is of P5.1: a stopped disk comes before a sector that there
// is not.
func TestReadOfWrong(t *testing.T) {
	for _, n := range []int{2, 3, 512} {
		d := fresh(t, n)
		check := func(at int, wanted api.Errno) {
			t.Helper()
			if s, err := d.Read(at); s != "" || err != wanted {
				t.Errorf("Read(%d) of %d sectors is %q, %d; want %d", at, n, s, err, wanted)
			}
		}
		wrong := []int{math.MinInt, -n, -1, n, n + 1, 1 << 32, math.MaxInt}
		for _, at := range wrong {
			check(at, api.ErrRange)
		}
		wantRead(t, d, n-1, filled(0))
		d.Fuse(1)
		wantRead(t, d, 0, filled(0))
		want(t, "Flush", d.Flush(), api.ErrDead)
		for _, at := range append(wrong, 0, n-1) {
			check(at, api.ErrDead)
		}
	}
}

// TestWriteOfWrong is of P5.2: the errors in their order. None of these calls
// is an operation, but for the one at which the disk stops.
func TestWriteOfWrong(t *testing.T) {
	whole := filled('a')
	other := []string{"", "a", whole[1:], whole + "a", whole + whole, strings.Repeat("ä", api.Sector)}
	for _, n := range []int{2, 3, 512} {
		d := fresh(t, n)
		wrong := []int{math.MinInt, -n, -1, n, n + 1, 1 << 32, math.MaxInt}
		d.Fuse(1)
		for _, at := range wrong {
			for _, s := range append(other, whole) {
				want(t, "Write to no sector", d.Write(at, s), api.ErrRange)
			}
		}
		for _, s := range other {
			want(t, "Write of other bytes", d.Write(0, s), api.ErrLong)
			want(t, "Write of other bytes", d.Write(n-1, s), api.ErrLong)
		}
		wantOps(t, d, 0, false)
		want(t, "Write at the stop", d.Write(n-1, whole), api.ErrDead)
		wantOps(t, d, 1, true)
		for _, at := range append(wrong, 0, n-1) {
			for _, s := range append(other, whole) {
				want(t, "Write when stopped", d.Write(at, s), api.ErrDead)
			}
		}
		want(t, "Flush when stopped", d.Flush(), api.ErrDead)
		wantOps(t, d, 1, true)
		wantWaits(t, d)
		wantSectors(t, d, slices.Repeat([]string{filled(0)}, n)...)
	}
}

// TestFlush is of P5.2: in their order, so that the last write to a sector
// stays; and nothing is left for a second one.
func TestFlush(t *testing.T) {
	d := fresh(t, 3)
	want(t, "Flush of nothing", d.Flush(), api.OK)
	wantSectors(t, d, filled(0), filled(0), filled(0))
	for _, b := range []byte("abcde") {
		put(t, d, 1, filled(b))
		put(t, d, 2, filled(b+10))
	}
	put(t, d, 2, filled(0))
	for range 3 {
		want(t, "Flush", d.Flush(), api.OK)
		wantSectors(t, d, filled(0), filled('e'), filled(0))
		wantWaits(t, d)
	}
	wantOps(t, d, 15, false)
}

// TestFlushAtTheStop is of P5.2: a flush that is not performed leaves what is
// pending as it is.
func TestFlushAtTheStop(t *testing.T) {
	d := fresh(t, 2)
	put(t, d, 1, filled('a'))
	put(t, d, 0, filled('b'))
	d.Fuse(1)
	for range 3 {
		want(t, "Flush", d.Flush(), api.ErrDead)
		wantSectors(t, d, filled(0), filled(0))
		wantWaits(t, d, api.Write{At: 1, Data: filled('a')}, api.Write{At: 0, Data: filled('b')})
		wantOps(t, d, 3, true)
	}
	want(t, "Crash", d.Crash([]bool{true, true}, 0), api.OK)
	wantSectors(t, d, filled('b'), filled('a'))
	wantOps(t, d, 3, false)
}

// TestWriteAtTheStop is of P5.2: a write that is not performed isn't pending,
// and can't be kept.
func TestWriteAtTheStop(t *testing.T) {
	d := fresh(t, 2)
	put(t, d, 1, filled('a'))
	d.Fuse(2)
	put(t, d, 0, filled('b'))
	want(t, "Write", d.Write(0, filled('c')), api.ErrDead)
	wantWaits(t, d, api.Write{At: 1, Data: filled('a')}, api.Write{At: 0, Data: filled('b')})
	if d.Size() != 2 {
		t.Errorf("Size() is %d when stopped", d.Size())
	}
	want(t, "Crash", d.Crash([]bool{true, true, true}, 0), api.OK)
	wantSectors(t, d, filled('b'), filled('a'))
}

// operate makes operation number i: a flush, each third time.
func operate(d *disk.Disk, i int) api.Errno {
	if i%3 == 2 {
		return d.Flush()
	}
	return d.Write(i%2, filled(byte('a'+i)))
}

// TestFuse is of P5.2: at each number, after some operations, the disk stops
// there, and neither before nor otherwise.
func TestFuse(t *testing.T) {
	for before := range 5 {
		for n := 1; n < 10; n++ {
			d := fresh(t, 2)
			for i := range before {
				want(t, "an operation", operate(d, i), api.OK)
			}
			d.Fuse(n)
			for i := range n - 1 {
				wantOps(t, d, before+i, false)
				want(t, "an operation before the stop", operate(d, before+i), api.OK)
			}
			wantOps(t, d, before+n-1, false)
			for i := range 4 {
				want(t, "an operation at the stop or later", operate(d, before+n-1+i), api.ErrDead)
				wantOps(t, d, before+n, true)
			}
		}
	}
}

// TestFuseOfNone is of P5.2: less than 1, or further away than what is done.
func TestFuseOfNone(t *testing.T) {
	for _, n := range []int{math.MinInt, math.MinInt + 1, -1 << 32, -2, -1, 0, 101, 1<<32 + 1, math.MaxInt} {
		d := fresh(t, 2)
		want(t, "an operation", operate(d, 0), api.OK)
		d.Fuse(n)
		for i := range 100 {
			want(t, "an operation", operate(d, i), api.OK)
		}
		wantOps(t, d, 101, false)
	}
}

// TestFuseAnew is of P5.2: from now on means that the last one counts.
func TestFuseAnew(t *testing.T) {
	for _, n := range []int{math.MinInt, -1, 0, 1, 2, 3, 4, 7} {
		d := fresh(t, 2)
		d.Fuse(3)
		want(t, "an operation", operate(d, 0), api.OK)
		want(t, "an operation", operate(d, 1), api.OK)
		d.Fuse(n)
		for i := range 9 {
			wanted := api.OK
			if n > 0 && i >= n-1 {
				wanted = api.ErrDead
			}
			want(t, "an operation after another Fuse", operate(d, 2+i), wanted)
		}
	}
}

// TestFuseWhenStopped is of P5.2 and P5.3: a stopped disk stays so, whatever is
// set, and what was set ends with the crash.
func TestFuseWhenStopped(t *testing.T) {
	for _, n := range []int{-1, 0, 1, 2, 5} {
		d := fresh(t, 2)
		d.Fuse(1)
		want(t, "the stop", operate(d, 0), api.ErrDead)
		d.Fuse(n)
		for i := range 6 {
			want(t, "an operation when stopped", operate(d, i), api.ErrDead)
			wantOps(t, d, 1, true)
		}
		want(t, "Crash", d.Crash(nil, 0), api.OK)
		for i := range 6 {
			wantOps(t, d, 1+i, false)
			want(t, "an operation after the crash", operate(d, i), api.OK)
		}
	}
}

// TestFuseCounts is of P5.2: only operations count, not what fails or what
// looks.
func TestFuseCounts(t *testing.T) {
	d := fresh(t, 2)
	d.Fuse(3)
	look := func() {
		want(t, "Write", d.Write(2, filled('a')), api.ErrRange)
		want(t, "Write", d.Write(-1, filled('a')), api.ErrRange)
		want(t, "Write", d.Write(0, "a"), api.ErrLong)
		_, err := d.Read(2)
		want(t, "Read", err, api.ErrRange)
		_, err = d.Read(1)
		want(t, "Read", err, api.OK)
		_, _, _, _ = d.Size(), d.Ops(), d.Sectors(), d.Waits()
	}
	for i := range 2 {
		look()
		wantOps(t, d, i, false)
		want(t, "an operation", operate(d, i), api.OK)
	}
	look()
	wantOps(t, d, 2, false)
	want(t, "the stop", operate(d, 2), api.ErrDead)
	wantOps(t, d, 3, true)
}

// TestOps is of P5.2: the chapter's example, and crashes wherever they are.
func TestOps(t *testing.T) {
	for mask := range 1 << 5 {
		d := fresh(t, 2)
		crash := func(i int) {
			if mask>>i&1 == 1 {
				want(t, "Crash", d.Crash([]bool{true}, i), api.OK)
			}
		}
		crash(0)
		put(t, d, 0, filled('a'))
		crash(1)
		put(t, d, 1, filled('b'))
		crash(2)
		want(t, "Flush", d.Flush(), api.OK)
		crash(3)
		put(t, d, 0, filled('c'))
		crash(4)
		wantOps(t, d, 4, false)
	}
}

// TestOpsOfStops is of P5.2: the operation at which the disk stops is one, also
// behind a crash.
func TestOpsOfStops(t *testing.T) {
	d := fresh(t, 2)
	for i := range 5 {
		wantOps(t, d, 2*i, false)
		d.Fuse(2)
		want(t, "Flush", d.Flush(), api.OK)
		want(t, "Flush", d.Flush(), api.ErrDead)
		want(t, "Flush", d.Flush(), api.ErrDead)
		wantOps(t, d, 2*i+2, true)
		want(t, "Crash", d.Crash(nil, 0), api.OK)
	}
}

// TestNoDisk is of the chapter's promise for a nil Disk, and one that neither
// New nor Load returned.
func TestNoDisk(t *testing.T) {
	check := func(d *disk.Disk) {
		t.Helper()
		for _, at := range []int{-1, 0, 1, 2} {
			s, err := d.Read(at)
			if s != "" {
				t.Errorf("Read(%d) is %q", at, s)
			}
			want(t, "Read", err, api.ErrArg)
			want(t, "Write", d.Write(at, filled('a')), api.ErrArg)
			want(t, "Write", d.Write(at, "a"), api.ErrArg)
		}
		want(t, "Flush", d.Flush(), api.ErrArg)
		for _, tear := range []int{-1, 0, 1, 127, 128} {
			want(t, "Crash", d.Crash(nil, tear), api.ErrArg)
			want(t, "Crash", d.Crash([]bool{true, false}, tear), api.ErrArg)
		}
		if d.Size() != 0 || len(d.Sectors()) != 0 || len(d.Waits()) != 0 {
			t.Errorf("Size() is %d, Sectors() %q, Waits() %#v", d.Size(), d.Sectors(), d.Waits())
		}
		wantOps(t, d, 0, true)
	}
	var zero disk.Disk
	for _, d := range []*disk.Disk{nil, {}, new(disk.Disk), &zero} {
		check(d)
		for _, n := range []int{math.MinInt, -1, 0, 1, 2, math.MaxInt} {
			d.Fuse(n)
			check(d)
		}
	}
	// Those that an error came with are nil.
	short, _ := disk.New(1)
	check(short)
	short, _ = disk.Load([]string{"a", "b"})
	check(short)
}
