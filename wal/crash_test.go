package wal_test

import (
	"slices"
	"strconv"
	"strings"
	"testing"

	"drayman/api"
	"drayman/disk"
	"drayman/super"
	"drayman/wal"
)

// scene is a log with what was done to it, and the call that a crash ends.
type scene struct {
	what  string
	total int
	dirty bool // what is free has something in it
	done  []call
	last  call
}

// scenes are calls of each kind, with new segments and without.
func scenes() []scene {
	full := app(sized(832))
	return []scene{
		{"the first batch", 10, false, nil, app("a")},
		{"a batch of three sectors", 10, false, []call{app("a")}, app(bytesOf(250))},
		{"a batch that fills the log", 10, false, []call{app("a"), app("b")}, app(sized(624))},
		{"a batch behind a base", 26, false, []call{app("a"), chk("x")}, app("c", "d")},
		{"a batch in a new segment", 18, false, []call{full}, app("a")},
		{"a batch in a new segment that has something", 18, true, []call{full}, app(bytesOf(150))},
		{"a batch in both", 26, true, []call{app(sized(728))}, app(bytesOf(250))},
		{"a batch in two new segments", 42, false, []call{app(bytesOf(500)), chk("x"), app(sized(730))}, app(sized(940))},
		{"the first base", 26, false, nil, chk("")},
		{"a base", 26, true, []call{app("a"), app("b")}, chk("x")},
		{"a base of three sectors", 26, true, []call{app("a"), app(bytesOf(200))}, chk(bytesOf(250))},
		{"a base behind a base", 42, true, []call{app("a"), chk("x"), app("b"), app("c")}, chk(bytesOf(150))},
		{"the same base", 42, false, []call{chk("x")}, chk("x")},
		{"a base of nine sectors", 50, true, []call{full, app("a"), chk("x"), app("b")}, chk(bytesOf(900))},
		{"a base behind a full disk", 50, false, []call{app("a"), chk("x"), full, full, full, chk("y"), app("a")}, chk("z")},
	}
}

// laidOut is the log of the scene ahead of the last call.
func (s scene) laidOut() *plain {
	p := fresh(s.total)
	for _, c := range s.done {
		if c.plainly(p) != api.OK {
			panic("a scene with an error")
		}
	}
	if s.dirty {
		for i, at := range sectorsOf(p.free()) {
			p.sectors[at] = []string{batch(p.num+1, "other")[0], filled('x'), parted(p.now.Gen+1, "other")[0]}[i%3]
		}
		p.sectors[(p.now.Gen+1)%2] = superOf(api.Super{Gen: max(1, p.now.Gen-1), Log: []int{0}})
	}
	return p
}

// stopped is a disk's sectors and pending writes when it stops.
type stopped struct {
	sectors []string
	waits   []api.Write
}

// stoppedAt is what a disk has that stops at each of the operations.
func stoppedAt(sectors []string, ops []api.Write) []stopped {
	now := stopped{sectors: slices.Clone(sectors)}
	var l []stopped
	for _, op := range ops {
		l = append(l, stopped{slices.Clone(now.sectors), slices.Clone(now.waits)})
		if op.At != flush {
			now.waits = append(now.waits, op)
			continue
		}
		for _, w := range now.waits {
			now.sectors[w.At] = w.Data
		}
		now.waits = nil
	}
	return l
}

// keeps are lists of what a crash keeps of n writes: nothing, all, and some; of
// a few writes, all lists there are.
func keeps(n int) [][]bool {
	var l [][]bool
	if n <= 4 {
		for bits := range 1 << n {
			keep := make([]bool, n)
			for i := range keep {
				keep[i] = bits>>i&1 == 1
			}
			l = append(l, keep)
		}
		return l
	}
	for i := 0; i <= n; i += max(1, n/5) {
		first, one, but, last := make([]bool, i), make([]bool, n), slices.Repeat([]bool{true}, n), make([]bool, n)
		for j := range n {
			last[j] = j >= i
			if j < i {
				first[j] = true
			}
		}
		if i < n {
			one[i], but[i] = true, false
		}
		l = append(l, first, one, but, last)
	}
	return l
}

// few are fewer lists of what a crash keeps of n writes.
func few(n int) [][]bool {
	l := [][]bool{nil, slices.Repeat([]bool{true}, n), make([]bool, n), make([]bool, n)}
	for i := range n {
		l[2+i%2][i] = true
	}
	return l
}

// tears are where the last one that is kept of n writes is torn.
func tears(n int) []int {
	if n > 4 {
		return []int{0, 6, 17, 126}
	}
	return []int{0, 1, 5, 6, 8, 11, 17, 64, 119, 120, 124, 125, 126, 127}
}

// crashes calls f with a disk for each crash of a disk that is stopped, but no
// two times with the same sectors.
func (s stopped) crashes(t *testing.T, keeps [][]bool, tears []int, f func(d *disk.Disk)) {
	t.Helper()
	seen := map[string]struct{}{}
	for _, keep := range keeps {
		for _, tear := range tears {
			d := s.disk(t)
			if err := d.Crash(keep, tear); err != api.OK {
				t.Fatalf("Crash has the error %d", err)
			}
			key := strings.Join(d.Sectors(), "")
			if _, is := seen[key]; !is {
				seen[key] = struct{}{}
				f(d)
			}
		}
	}
}

// disk is the disk that is stopped, ahead of a crash.
func (s stopped) disk(t *testing.T) *disk.Disk {
	t.Helper()
	d := loaded(t, s.sectors)
	for _, w := range s.waits {
		if err := d.Write(w.At, w.Data); err != api.OK {
			t.Fatalf("Write has the error %d", err)
		}
	}
	return d
}

// wantStopped holds a disk that is stopped against what it has to have.
func (s stopped) wantStopped(t *testing.T, d *disk.Disk) {
	t.Helper()
	if got := d.Sectors(); !slices.Equal(got, s.sectors) {
		t.Fatalf("the sectors are %.12q, want %.12q", got, s.sectors)
	}
	if got := d.Waits(); !slices.Equal(got, s.waits) {
		t.Fatalf("the pending writes are %.12v, want %.12v", got, s.waits)
	}
	if !d.Dead() {
		t.Fatal("the disk is not stopped")
	}
}

// found is a log kept apart as it has to be found on a disk, with what was kept:
// the superblock that counts says where it is.
func found(t *testing.T, d *disk.Disk, kept api.Kept) *plain {
	t.Helper()
	p := &plain{sectors: d.Sectors(), kept: kept}
	x, _, err := super.Best(p.sectors[0], p.sectors[1])
	if err != api.OK {
		t.Fatalf("Best has the error %d", err)
	}
	p.now, p.num = x, x.Base
	if kept.Has != (len(x.Check) > 0) || len(kept.Base) != x.Size {
		t.Fatalf("%s is kept, and the superblock is %v", short(kept), x)
	}
	if kept.Has {
		for i, s := range parted(x.CheckGen, kept.Base) {
			wantSector(t, p, sectorsOf(x.Check)[i], s)
		}
	}
	for _, records := range kept.Batches {
		p.num++
		for _, s := range batch(p.num, records...) {
			wantSector(t, p, p.left()[0], s)
			p.used++
		}
	}
	for _, at := range p.left() {
		wantSector(t, p, at, blank())
	}
	return p
}

// wantSector holds a sector against what is wanted.
func wantSector(t *testing.T, p *plain, at int, want string) {
	t.Helper()
	if p.sectors[at] != want {
		t.Fatalf("sector %d is %q, want %q", at, p.sectors[at], want)
	}
}

// wantOneOf opens behind a crash: what was kept is one of two, with its number
// of the last batch, and the disk is in order. Which one it is is answered.
func wantOneOf(t *testing.T, d *disk.Disk, before, after *plain) *plain {
	t.Helper()
	l, kept, err := wal.Open(d)
	if l == nil || err != api.OK {
		t.Fatalf("Open behind a crash has the error %d", err)
	}
	p := found(t, d, kept)
	wantLike(t, l, d, p)
	for _, q := range []*plain{before, after} {
		if equal(kept, q.kept) && l.Num() == q.num {
			return p
		}
	}
	t.Fatalf("Open behind a crash tells %s, %d; want %s or %s", short(kept), l.Num(), short(before.kept), short(after.kept))
	return nil
}

// wantRecovered opens what a crash left: to the end, twice, with a batch and a
// base behind it, and with one more crash at each operation while it is opened.
func wantRecovered(t *testing.T, sectors []string, before, after *plain) {
	t.Helper()
	d := loaded(t, sectors)
	p := wantOneOf(t, d, before, after)
	ops := d.Ops()
	wantOpen(t, d, p)
	goesOn(t, d, p.clone())
	// Open erases the log behind the batches, and does no more.
	q := p.clone()
	q.sectors = slices.Clone(sectors)
	q.erase(q.left())
	if ops != len(q.ops) {
		t.Fatalf("Open took %d operations, want %d", ops, len(q.ops))
	}
	stoppedOpens(t, sectors, q.ops, p)
}

// stoppedOpens opens what a crash left, on a disk that stops at each of the
// operations that this takes, and crashes once more.
func stoppedOpens(t *testing.T, sectors []string, ops []api.Write, p *plain) {
	t.Helper()
	for i, s := range stoppedAt(sectors, ops) {
		d := loaded(t, sectors)
		d.Fuse(i + 1)
		wantDead(t, d, i+1)
		s.wantStopped(t, d)
		wantDead(t, d, i+1)
		s.crashes(t, few(len(s.waits)), []int{0, 7, 125}, func(d *disk.Disk) { wantOpen(t, d, wantOneOf(t, d, p, p)) })
	}
}

// wantDead opens a disk that is stopped behind so many operations, or stops at
// the last of them.
func wantDead(t *testing.T, d *disk.Disk, ops int) {
	t.Helper()
	if l, kept, err := wal.Open(d); l != nil || !equal(kept, api.Kept{}) || err != api.ErrDead || d.Ops() != ops {
		t.Fatalf("Open of a disk that stops at operation %d is %t, %s, %d", ops, l != nil, short(kept), err)
	}
}

// goesOn performs calls at a log that was opened behind a crash.
func goesOn(t *testing.T, d *disk.Disk, p *plain) {
	t.Helper()
	l := wantOpen(t, d, p)
	wantCall(t, l, d, p, app(bytesOf(150)))
	wantOpen(t, d, p)
	wantCall(t, l, d, p, chk("later"))
	wantCall(t, l, d, p, app(bytesOf(120)))
	wantOpen(t, d, p)
}

// wantStays holds that a stopped log refuses everything, tells what it told, and
// does nothing to the disk.
func wantStays(t *testing.T, l *wal.Log, d *disk.Disk, before *plain) {
	t.Helper()
	ops := d.Ops()
	for _, c := range []call{app("a"), app(), app(""), app(bytesOf(4097)), app(slices.Repeat([]string{"a"}, 2341)...), chk(""), chk("a"), chk(bytesOf(52416)), chk(bytesOf(52417))} {
		if err := c.at(l); err != api.ErrDead {
			t.Fatalf("%s at a stopped log has the error %d", short(c), err)
		}
	}
	wantNums(t, l, before.num, before.now.Gen, len(before.free()))
	if d.Ops() != ops {
		t.Fatal("a stopped log goes on")
	}
}

// TestEachOperation is of P10.2 to P10.5: a disk that stops at each operation of
// a call: which operations these are; the log is stopped from then on, and tells
// what it told ahead of the call, also when the disk goes on.
func TestEachOperation(t *testing.T) {
	for _, s := range scenes() {
		before := s.laidOut()
		after := before.clone()
		if err := s.last.plainly(after); err != api.OK {
			t.Fatalf("%s: the last call has the error %d", s.what, err)
		}
		for i, want := range stoppedAt(before.sectors, after.ops) {
			d := loaded(t, before.sectors)
			l := wantOpen(t, d, before)
			d.Fuse(i + 1)
			if err := s.last.at(l); err != api.ErrDead || d.Ops() != i+1 {
				t.Fatalf("%s: stopped at operation %d, the call has the error %d", s.what, i+1, err)
			}
			want.wantStopped(t, d)
			wantStays(t, l, d, before)
			if err := d.Crash(nil, 0); err != api.OK {
				t.Fatalf("Crash has the error %d", err)
			}
			wantStays(t, l, d, before)
			wantSectors(t, d, want.sectors)
		}
		// At the operation behind the last one it does not stop.
		d := loaded(t, before.sectors)
		l := wantOpen(t, d, before)
		d.Fuse(len(after.ops) + 1)
		wantCall(t, l, d, before.clone(), s.last)
	}
}

// TestEachCrash is of P10.5 and P10.6: a disk that stops at each operation of a
// call, and crashes, whatever is kept and torn; then it is opened, also with one
// more crash, and everything or nothing of the call is there.
func TestEachCrash(t *testing.T) {
	t.Parallel()
	for _, s := range scenes() {
		before := s.laidOut()
		after := before.clone()
		s.last.plainly(after)
		for i, stop := range stoppedAt(before.sectors, after.ops) {
			t.Run(s.what+", operation "+strconv.Itoa(i+1), func(t *testing.T) {
				t.Parallel()
				n := len(stop.waits)
				stop.crashes(t, keeps(n), tears(n), func(d *disk.Disk) { wantRecovered(t, d.Sectors(), before, after) })
			})
		}
		// What has the answer OK is there behind every crash.
		wantRecovered(t, after.sectors, after, after)
	}
}

// TestCrashKeepsAll is of P10.5: a crash at the last operation of a call, which
// keeps all, leaves everything of it; and one that keeps nothing, nothing.
func TestCrashKeepsAll(t *testing.T) {
	for _, s := range scenes() {
		before := s.laidOut()
		after := before.clone()
		s.last.plainly(after)
		stops := stoppedAt(before.sectors, after.ops)
		last := stops[len(stops)-1]
		d := last.disk(t)
		d.Crash(slices.Repeat([]bool{true}, len(last.waits)), 0)
		wantOneOf(t, d, after, after)
		d = last.disk(t)
		d.Crash(nil, 0)
		wantOneOf(t, d, before, before)
	}
}

// TestCrashOfFirstOpen is of P10.1 and P10.5: a disk without a superblock that
// stops at each operation of Open, and crashes: it is opened with nothing kept,
// though what stood in its segment were the batches of a log.
func TestCrashOfFirstOpen(t *testing.T) {
	t.Parallel()
	for _, total := range []int{10, 26} {
		for _, c := range [][3]string{
			{blank(), blank(), blank()}, {filled('x'), filled('y'), filled('z')}, {filled('x'), blank(), batch(1, "a")[0]},
			{blank(), filled('y'), blank()}, {blank(), blank(), batch(1, "a")[0]},
		} {
			p := &plain{sectors: slices.Repeat(c[2:], total)}
			p.sectors[0], p.sectors[1] = c[0], c[1]
			sectors := slices.Clone(p.sectors)
			p.erase(sectorsOf([]int{0}))
			p.store(api.Super{Gen: 1, Log: []int{0}})
			for i, s := range stoppedAt(sectors, p.ops) {
				d := loaded(t, sectors)
				d.Fuse(i + 1)
				wantDead(t, d, i+1)
				s.wantStopped(t, d)
				wantDead(t, d, i+1)
				s.crashes(t, keeps(len(s.waits)), []int{0, 1, 64, 127}, func(d *disk.Disk) { wantBegun(t, d.Sectors(), p) })
			}
		}
	}
}

// wantBegun opens a disk on which a log may have begun, with one more crash, and
// without; it is as if it had begun now.
func wantBegun(t *testing.T, sectors []string, p *plain) {
	t.Helper()
	d := loaded(t, sectors)
	l := opened(t, d, api.Kept{})
	ops := d.Ops()
	wantLike(t, l, d, p)
	goesOn(t, d, p.clone())
	for k := 1; k <= ops; k++ {
		d := loaded(t, sectors)
		d.Fuse(k)
		wantDead(t, d, k)
		s := stopped{d.Sectors(), d.Waits()}
		s.crashes(t, few(len(s.waits)), []int{0, 7, 125}, func(d *disk.Disk) {
			wantLike(t, opened(t, d, api.Kept{}), d, p)
			wantOpen(t, d, p)
		})
	}
}

// TestStoppedDisk is of P10.2 to P10.4: a disk that another's operation stopped.
// While it is stopped the log is too; it had no error of the disk itself, and
// goes on when the disk does.
func TestStoppedDisk(t *testing.T) {
	for _, s := range scenes() {
		p := s.laidOut()
		d := loaded(t, p.sectors)
		l := wantOpen(t, d, p)
		d.Fuse(1)
		if d.Flush() != api.ErrDead {
			t.Fatal("the disk is not stopped")
		}
		wantStays(t, l, d, p)
		if err := d.Crash(nil, 0); err != api.OK {
			t.Fatalf("Crash has the error %d", err)
		}
		wantLike(t, l, d, p)
		wantCall(t, l, d, p, s.last)
		wantOpen(t, d, p)
	}
}

// TestOpenedAgain is of P10.5: a log that a crash stopped stays so, while the one
// that is opened behind it goes on.
func TestOpenedAgain(t *testing.T) {
	p := fresh(26)
	d := loaded(t, p.sectors)
	old := wantOpen(t, d, p)
	wantCall(t, old, d, p, app("a"))
	d.Fuse(2)
	if err := old.Append("b"); err != api.ErrDead {
		t.Fatalf("Append has the error %d", err)
	}
	d.Crash([]bool{true}, 0)
	p.append("b")
	l := wantOpen(t, d, p)
	wantCall(t, l, d, p, app("c"))
	for _, c := range []call{app("d"), chk("e")} {
		if err := c.at(old); err != api.ErrDead {
			t.Fatalf("%s at the stopped log has the error %d", short(c), err)
		}
	}
	wantNums(t, old, 1, 1, 2)
	wantLike(t, l, d, p)
	wantOpen(t, d, p)
}

// TestCrashCourses is of P10.5: long courses of calls, of which many end with a
// crash, also while the log is opened; all that was answered is there, and of
// the call that was not, everything or nothing.
func TestCrashCourses(t *testing.T) {
	for _, total := range []int{10, 18, 26, 34, 50, 130} {
		for seed := range 6 {
			next := chance(100*total + seed)
			p := fresh(total)
			d := loaded(t, p.sectors)
			l := wantOpen(t, d, p)
			for range 150 {
				c := someCall(next)
				if next(3) > 0 {
					wantCall(t, l, d, p, c)
					continue
				}
				before := p.clone()
				d.Fuse(1 + next(14))
				c.at(l)
				c.plainly(p)
				if !d.Dead() { // It did not stop, and nothing is pending.
					before = p
				}
				for crashed(d, next); next(3) == 0; crashed(d, next) {
					d.Fuse(1 + next(4))
					wal.Open(d)
				}
				p = wantOneOf(t, d, before, p)
				l = wantOpen(t, d, p)
			}
		}
	}
}

// crashed crashes a disk, with some of what is pending kept, and torn.
func crashed(d *disk.Disk, next func(int) int) {
	keep := make([]bool, len(d.Waits()))
	for i := range keep {
		keep[i] = next(4) > 0
	}
	d.Crash(keep, next(200))
}
