package disk_test

import (
	"fmt"
	"math"
	"slices"
	"testing"

	"drayman/api"
	"drayman/disk"
)

// mixed is the first n bytes of a sector, then the bytes of another.
func mixed(fresh string, n int, old string) string { return fresh[:n] + old[n:] }

// tears are where a write may be torn, and where none is.
func tears() []int {
	return []int{math.MinInt, -128, -1, 0, 1, 2, 64, 104, 126, 127, 128, 129, 256, 1<<32 + 1, math.MaxInt}
}

// wantTorn is what a sector has after its write is torn, or is not.
func wantTorn(fresh, old string, tear int) string {
	if tear >= 1 && tear <= 127 {
		return mixed(fresh, tear, old)
	}
	return fresh
}

// TestCrash is of P5.3: which of three pending writes are kept, to three
// sectors, and how the last one of them is torn; keep may be longer or shorter.
func TestCrash(t *testing.T) {
	for _, c := range []struct {
		keep []bool
		kept []int
	}{
		{nil, nil}, {[]bool{}, nil}, {[]bool{false}, nil}, {[]bool{false, false, false}, nil},
		{[]bool{false, false, false, true}, nil}, {[]bool{false, false, false, false, true, true}, nil},
		{[]bool{true}, []int{0}}, {[]bool{false, true}, []int{1}}, {[]bool{false, false, true}, []int{2}},
		{[]bool{true, false, false}, []int{0}}, {[]bool{true, false, false, true}, []int{0}},
		{[]bool{true, true}, []int{0, 1}}, {[]bool{true, true, false, true, true}, []int{0, 1}},
		{[]bool{true, false, true}, []int{0, 2}}, {[]bool{false, true, true}, []int{1, 2}},
		{[]bool{true, true, true}, []int{0, 1, 2}}, {[]bool{true, true, true, false}, []int{0, 1, 2}},
		{[]bool{true, true, true, true, true}, []int{0, 1, 2}},
	} {
		for _, tear := range tears() {
			d := loaded(t, list(4)...)
			l := list(4)
			for i := range 3 {
				put(t, d, 3-i, scattered(10+i))
			}
			for i, n := range c.kept {
				l[3-n] = scattered(10 + n)
				if i == len(c.kept)-1 {
					l[3-n] = wantTorn(scattered(10+n), scattered(3-n), tear)
				}
			}
			keep := slices.Clone(c.keep)
			want(t, "Crash", d.Crash(keep, tear), api.OK)
			wantSectors(t, d, l...)
			wantWaits(t, d)
			wantOps(t, d, 3, false)
			if !slices.Equal(keep, c.keep) {
				t.Errorf("Crash changed keep to %t", keep)
			}
		}
	}
}

// TestCrashOnOneSector is of P5.3: of several writes to one sector, the last
// kept one is torn onto the one that was kept before, or onto the sector.
func TestCrashOnOneSector(t *testing.T) {
	old, a, b, c := filled('o'), filled('a'), filled('b'), filled('c')
	for _, x := range []struct {
		keep         []bool
		fresh, below string
	}{
		{[]bool{true, true, true}, c, b}, {[]bool{true, false, true}, c, a}, {[]bool{false, true, true}, c, b},
		{[]bool{false, false, true}, c, old}, {[]bool{true, true, false}, b, a}, {[]bool{true, true}, b, a},
		{[]bool{false, true, false}, b, old}, {[]bool{true}, a, old}, {[]bool{true, false, false, true}, a, old},
		{nil, old, old}, {[]bool{false, false, false, true}, old, old},
	} {
		for _, tear := range tears() {
			d := loaded(t, filled('x'), old)
			put(t, d, 1, a)
			put(t, d, 1, b)
			put(t, d, 1, c)
			want(t, "Crash", d.Crash(x.keep, tear), api.OK)
			wantSectors(t, d, filled('x'), wantTorn(x.fresh, x.below, tear))
		}
	}
}

// TestCrashInBetween is of P5.3: only the last one is torn, also if it is to a
// sector between others, and what is dropped behind it has no part in it.
func TestCrashInBetween(t *testing.T) {
	for _, tear := range tears() {
		d := loaded(t, list(3)...)
		put(t, d, 0, filled('a'))
		put(t, d, 1, filled('b'))
		put(t, d, 0, filled('c'))
		put(t, d, 2, filled('d'))
		put(t, d, 0, filled('e'))
		want(t, "Crash", d.Crash([]bool{true, true, true, false, false}, tear), api.OK)
		wantSectors(t, d, wantTorn(filled('c'), filled('a'), tear), filled('b'), scattered(2))
		// Nothing is pending any more: there is nothing to keep or to tear.
		want(t, "Crash", d.Crash([]bool{true, true}, 5), api.OK)
		wantSectors(t, d, wantTorn(filled('c'), filled('a'), tear), filled('b'), scattered(2))
	}
}

// TestCrashAtEachByte is of P5.3: torn at each byte there is.
func TestCrashAtEachByte(t *testing.T) {
	for tear := -2; tear < 2*api.Sector; tear++ {
		d := loaded(t, list(2)...)
		put(t, d, 1, filled('a'))
		put(t, d, 1, scattered(7))
		want(t, "Crash", d.Crash([]bool{true, true}, tear), api.OK)
		wantSectors(t, d, scattered(0), wantTorn(scattered(7), filled('a'), tear))
		wantRead(t, d, 1, wantTorn(scattered(7), filled('a'), tear))
	}
}

// TestCrashOfExample is of P5.3: the chapter's examples.
func TestCrashOfExample(t *testing.T) {
	d := fresh(t, 2)
	put(t, d, 0, filled('a'))
	want(t, "Crash", d.Crash(nil, 0), api.OK)
	wantSectors(t, d, filled(0), filled(0))
	put(t, d, 0, filled('a'))
	want(t, "Flush", d.Flush(), api.OK)
	put(t, d, 0, filled('b'))
	want(t, "Crash", d.Crash([]bool{true}, 1), api.OK)
	wantSectors(t, d, "b"+filled('a')[1:], filled(0))
}

// TestCrashEndsTheFuse is of P5.3: a stopped disk goes on, and one that would
// stop later does not.
func TestCrashEndsTheFuse(t *testing.T) {
	for n := 1; n < 6; n++ {
		d := fresh(t, 2)
		d.Fuse(n)
		for i := range 3 {
			operate(d, i)
		}
		ops := min(n, 3)
		wantOps(t, d, ops, n <= 3)
		want(t, "Crash", d.Crash(nil, 0), api.OK)
		for i := range 10 {
			wantOps(t, d, ops+i, false)
			want(t, "an operation behind the crash", operate(d, i), api.OK)
		}
	}
}

// attempt is a short course of writes and flushes: a write if it is not
// negative, to that sector.
type attempt []int

// attempts are all courses of up to n operations with two sectors.
func attempts(n int) []attempt {
	l := []attempt{{}}
	for from := 0; n > 0; n-- {
		to := len(l)
		for _, a := range l[from:to] {
			for _, next := range []int{-1, 0, 1} {
				l = append(l, append(slices.Clone(a), next))
			}
		}
		from = to
	}
	return l
}

// crashed is an attempt, a crash, and what may be told of it beforehand.
type crashed struct {
	was   []string   // what was flushed
	since [][]string // the writes to each sector since
	last  api.Write  // the last write that was kept
	kept  bool
	is    []string
}

// crash makes an attempt on a disk, lets it stop behind it, and crashes it.
func crash(t *testing.T, a attempt, keep []bool, tear int) crashed {
	t.Helper()
	d := loaded(t, list(2)...)
	c := crashed{was: list(2), since: make([][]string, 2)}
	var waits []api.Write
	for i, at := range a {
		if at < 0 {
			want(t, "Flush", d.Flush(), api.OK)
			for n := range c.since {
				if len(c.since[n]) > 0 {
					c.was[n] = c.since[n][len(c.since[n])-1]
				}
			}
			c.since, waits = make([][]string, 2), nil
			continue
		}
		s := scattered(100 + i)
		put(t, d, at, s)
		c.since[at] = append(c.since[at], s)
		waits = append(waits, api.Write{At: at, Data: s})
	}
	d.Fuse(1)
	want(t, "the stop", d.Flush(), api.ErrDead)
	want(t, "Crash", d.Crash(keep, tear), api.OK)
	for i, w := range waits {
		if keep[i] {
			c.last, c.kept = w, true
		}
	}
	c.is = d.Sectors()
	return c
}

// everyCrash makes each attempt of up to five operations, keeps what may be
// kept, and looks at what is left.
func everyCrash(t *testing.T, look func(c crashed) string) {
	t.Helper()
	for _, a := range attempts(5) {
		for mask := range 1 << len(a) {
			keep := make([]bool, len(a))
			for i := range keep {
				keep[i] = mask>>i&1 == 1
			}
			for _, tear := range []int{0, 1, 127, 128} {
				if wrong := look(crash(t, a, keep, tear)); wrong != "" {
					t.Fatalf("%v, %t, %d: %s", a, keep, tear, wrong)
				}
			}
		}
	}
}

// TestFlushed is of P5.4: what was flushed is there, whatever is kept and torn,
// if no write to its sector was pending.
func TestFlushed(t *testing.T) {
	everyCrash(t, func(c crashed) string {
		for at, s := range c.is {
			if len(c.since[at]) == 0 && s != c.was[at] {
				return fmt.Sprintf("sector %d is %q, want %q", at, s, c.was[at])
			}
		}
		return ""
	})
}

// TestCrashed is of P5.5: each sector is what it was or one of the writes to it
// since; that of the last kept write begins as this and ends as one of these.
func TestCrashed(t *testing.T) {
	everyCrash(t, func(c crashed) string {
		for at, s := range c.is {
			l := append([]string{c.was[at]}, c.since[at]...)
			is := slices.Contains(l, s)
			if c.kept && at == c.last.At {
				is = slices.ContainsFunc(l, func(old string) bool {
					return slices.ContainsFunc(tears(), func(tear int) bool { return s == wantTorn(c.last.Data, old, tear) })
				})
			}
			if !is {
				return fmt.Sprintf("sector %d is %q", at, s)
			}
		}
		return ""
	})
}

// plain is a disk, as the chapter says it: all is kept byte by byte.
type plain struct {
	sectors [][]byte
	waits   []api.Write
	ops     int
	stop    int // the number, of all operations, at which it stops; or 0
	dead    bool
}

// write is what Write is to answer.
func (p *plain) write(at int, s string) api.Errno {
	switch {
	case p.dead:
		return api.ErrDead
	case at < 0 || at >= len(p.sectors):
		return api.ErrRange
	case len(s) != 128:
		return api.ErrLong
	case p.stops():
		return api.ErrDead
	}
	p.waits = append(p.waits, api.Write{At: at, Data: s})
	return api.OK
}

// flush is what Flush is to answer.
func (p *plain) flush() api.Errno {
	if p.dead || p.stops() {
		return api.ErrDead
	}
	for _, w := range p.waits {
		copy(p.sectors[w.At], w.Data)
	}
	p.waits = nil
	return api.OK
}

// stops counts an operation, and reports whether the disk stops at it.
func (p *plain) stops() bool {
	p.ops++
	p.dead = p.ops == p.stop
	return p.dead
}

// set is what Fuse is to do.
func (p *plain) set(n int) {
	p.stop = 0
	if n >= 1 {
		p.stop = p.ops + n
	}
}

// crash is what Crash is to do: first which one is the last, then each one.
func (p *plain) crash(keep []bool, tear int) {
	last := -1
	for i := range min(len(keep), len(p.waits)) {
		if keep[i] {
			last = i
		}
	}
	for i := range last + 1 {
		if !keep[i] {
			continue
		}
		n := 128
		if i == last && tear > 0 && tear < 128 {
			n = tear
		}
		copy(p.sectors[p.waits[i].At][:n], p.waits[i].Data)
	}
	p.waits, p.stop, p.dead = nil, 0, false
}

// read is what Read is to answer.
func (p *plain) read(at int) (string, api.Errno) {
	if p.dead {
		return "", api.ErrDead
	}
	if at < 0 || at >= len(p.sectors) {
		return "", api.ErrRange
	}
	for _, w := range slices.Backward(p.waits) {
		if w.At == at {
			return w.Data, api.OK
		}
	}
	return string(p.sectors[at]), api.OK
}

// alike holds all that a disk answers against what is wanted.
func alike(t *testing.T, d *disk.Disk, p *plain) {
	t.Helper()
	var l []string
	for _, s := range p.sectors {
		l = append(l, string(s))
	}
	wantSectors(t, d, l...)
	wantWaits(t, d, p.waits...)
	wantOps(t, d, p.ops, p.dead)
	for at := -1; at <= len(l); at++ {
		got, err := d.Read(at)
		wanted, wantErr := p.read(at)
		if got != wanted || err != wantErr {
			t.Fatalf("Read(%d) is %q, %d; want %q, %d", at, got, err, wanted, wantErr)
		}
	}
	if d.Size() != len(l) {
		t.Fatalf("Size() is %d, want %d", d.Size(), len(l))
	}
}

// walk makes steps of any kind on a disk and on what it is held against.
func walk(t *testing.T, n int, seed uint32, steps int) {
	t.Helper()
	d, p := fresh(t, n), &plain{}
	for range n {
		p.sectors = append(p.sectors, make([]byte, 128))
	}
	draw := func(most int) int {
		seed = next(seed)
		return int(seed>>8) % most
	}
	for i := range steps {
		switch kind := draw(16); {
		case kind < 8:
			at, s := draw(n+2)-1, scattered(i)
			want(t, "Write", d.Write(at, s), p.write(at, s))
		case kind < 9:
			at, s := draw(n+2)-1, scattered(i)[draw(2):]+scattered(i)[:draw(2)]
			want(t, "Write", d.Write(at, s), p.write(at, s))
		case kind < 11:
			want(t, "Flush", d.Flush(), p.flush())
		case kind < 13:
			at := draw(12) - 3
			d.Fuse(at)
			p.set(at)
		default:
			keep := make([]bool, draw(2*n+2))
			for i := range keep {
				keep[i] = draw(2) == 1
			}
			tear := draw(132) - 2
			want(t, "Crash", d.Crash(keep, tear), api.OK)
			p.crash(keep, tear)
		}
		alike(t, d, p)
	}
}

// TestAnyCourse is of P5.1 to P5.3: long courses of all calls, each of which is
// answered as by a plain disk, and leaves what a plain disk has.
func TestAnyCourse(t *testing.T) {
	for seed := range uint32(60) {
		walk(t, 2+int(seed%4), seed*7919, 400)
	}
	walk(t, api.MaxSecs, 5, 200)
}
