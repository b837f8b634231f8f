package wal_test

import (
	"fmt"
	"slices"
	"strings"
	"testing"

	"drayman/api"
	"drayman/disk"
	"drayman/frame"
	"drayman/stamp"
	"drayman/super"
	"drayman/wal"
)

// flush is where an operation of plain is that is no write.
const flush = -1

// plain is a log kept apart from the package: the sectors of its disk, all of
// them performed, what Open would tell of them, and the operations of the disk
// that the chapter asks for.
type plain struct {
	sectors   []string
	now       api.Super
	num, used int
	kept      api.Kept
	ops       []api.Write
}

// blank is a blank sector.
func blank() string { return strings.Repeat("\x00", 128) }

// filled is a sector of one byte.
func filled(b byte) string { return strings.Repeat(string([]byte{b}), 128) }

// bytesOf is n bytes, each unlike its neighbours.
func bytesOf(n int) string {
	b := make([]byte, n)
	for i := range b {
		b[i] = byte(i*7 + i/104 + 1)
	}
	return string(b)
}

// sealed is a sealed sector.
func sealed(num, index, count int, s string) string {
	a, err := stamp.Seal(api.Stamp{Num: num, Index: index, Count: count}, s)
	if err != api.OK {
		panic("no such sector")
	}
	return a
}

// superOf is the sector of a superblock.
func superOf(x api.Super) string {
	s, err := super.Encode(x)
	if err != api.OK {
		panic("no such superblock")
	}
	return s
}

// cut is the parts of a text: full ones, and the rest.
func cut(s string) []string {
	l := []string{s[:min(104, len(s))]}
	for at := 104; at < len(s); at += 104 {
		l = append(l, s[at:min(at+104, len(s))])
	}
	return l
}

// parted is the sectors of a text that is sealed with num.
func parted(num int, s string) []string {
	l := cut(s)
	for i, part := range l {
		l[i] = sealed(num, i, len(l), part)
	}
	return l
}

// framed is the frames of records.
func framed(records ...string) string {
	s, err := frame.Put(records...)
	if err != api.OK {
		panic("no such records")
	}
	return s
}

// batch is the sectors of a batch.
func batch(num int, records ...string) []string { return parted(num, framed(records...)) }

// sectorsOf is the sectors of segments.
func sectorsOf(l []int) []int {
	var all []int
	for _, k := range l {
		for i := range 8 {
			all = append(all, 2+8*k+i)
		}
	}
	return all
}

// segments is how many segments a disk has.
func segments(total int) int { return min((total-2)/8, 63) }

// fresh is a log on a disk that had nothing but bytes 0.
func fresh(total int) *plain {
	p := &plain{sectors: slices.Repeat([]string{blank()}, total)}
	p.store(api.Super{Gen: 1, Log: []int{0}})
	p.ops = nil
	return p
}

// clone is a copy that shares nothing.
func (p *plain) clone() *plain {
	q := *p
	q.sectors, q.ops = slices.Clone(p.sectors), nil
	q.kept.Batches = slices.Clone(p.kept.Batches)
	return &q
}

// write and flush are operations of the disk.
func (p *plain) write(at int, s string) {
	p.ops = append(p.ops, api.Write{At: at, Data: s})
	p.sectors[at] = s
}

func (p *plain) flush() { p.ops = append(p.ops, api.Write{At: flush}) }

// erase is the Erase of chapter 9.
func (p *plain) erase(l []int) {
	n := len(p.ops)
	for _, at := range l {
		if p.sectors[at] != blank() {
			p.write(at, blank())
		}
	}
	if len(p.ops) > n {
		p.flush()
	}
}

// store stores a superblock.
func (p *plain) store(x api.Super) {
	slot := x.Gen % 2
	p.erase([]int{slot})
	p.write(slot, superOf(x))
	p.flush()
	p.now = x
}

// put writes a list of sectors, and flushes.
func (p *plain) put(at []int, l []string) {
	for i, s := range l {
		p.write(at[i], s)
	}
	p.flush()
}

// free is the free segments.
func (p *plain) free() []int {
	var l []int
	for k := range segments(len(p.sectors)) {
		if !slices.Contains(p.now.Check, k) && !slices.Contains(p.now.Log, k) {
			l = append(l, k)
		}
	}
	return l
}

// left is the sectors of the log behind the batches.
func (p *plain) left() []int { return sectorsOf(p.now.Log)[p.used:] }

// append is the chapter's Append of a log that goes.
func (p *plain) append(records ...string) api.Errno {
	if len(records) == 0 {
		return api.ErrArg
	}
	s, err := frame.Put(records...)
	if err != api.OK {
		return err
	}
	l := parted(min(p.num+1, api.Most), s)
	free, n := p.free(), 0
	for len(p.left())+8*n < len(l) {
		n++
	}
	switch {
	case p.num == api.Most || n > 0 && p.now.Gen == api.Most:
		return api.ErrOver
	case n > len(free):
		return api.ErrFull
	case n > 0:
		p.erase(sectorsOf(free[:n]))
		x := p.now
		x.Gen, x.Log = x.Gen+1, slices.Concat(x.Log, free[:n])
		p.store(x)
	}
	p.put(p.left(), l)
	p.num++
	p.used += len(l)
	p.kept.Batches = append(p.kept.Batches, slices.Clone(records))
	return api.OK
}

// check is the chapter's Check of a log that goes.
func (p *plain) check(base string) api.Errno {
	if len(base) > 63*8*104 {
		return api.ErrLong
	}
	if p.now.Gen == api.Most {
		return api.ErrOver
	}
	gen, free := p.now.Gen+1, p.free()
	l := parted(gen, base)
	n := (len(l) + 7) / 8
	if n+1 > len(free) {
		return api.ErrFull
	}
	p.erase(sectorsOf(free[:n+1]))
	p.put(sectorsOf(free[:n]), l)
	p.store(api.Super{Gen: gen, Base: p.num, Size: len(base), CheckGen: gen, Check: free[:n], Log: free[n : n+1]})
	p.used = 0
	p.kept = api.Kept{Has: true, Base: base}
	return api.OK
}

// call is a call of a log: an Append, or a Check.
type call struct {
	records []string
	check   bool
	base    string
}

// app and chk are calls.
func app(records ...string) call { return call{records: records} }

func chk(base string) call { return call{check: true, base: base} }

// at performs a call at a log.
func (c call) at(l *wal.Log) api.Errno {
	if c.check {
		return l.Check(c.base)
	}
	return l.Append(c.records...)
}

// plainly performs a call at a log that is kept apart; its operations are those
// of the call.
func (c call) plainly(p *plain) api.Errno {
	p.ops = nil
	if c.check {
		return p.check(c.base)
	}
	return p.append(c.records...)
}

// short is what something is, cut off where it is long.
func short(x any) string {
	s := fmt.Sprintf("%+q", fmt.Sprint(x))
	return s[:min(len(s), 150)]
}

// equal holds what was kept against what was to be kept.
func equal(a, b api.Kept) bool {
	return a.Has == b.Has && a.Base == b.Base && slices.EqualFunc(a.Batches, b.Batches, slices.Equal[[]string])
}

// loaded makes a disk.
func loaded(t *testing.T, sectors []string) *disk.Disk {
	t.Helper()
	d, err := disk.Load(sectors)
	if err != api.OK {
		t.Fatalf("Load has the error %d", err)
	}
	return d
}

// opened opens, and must get OK, and what is wanted.
func opened(t *testing.T, d *disk.Disk, want api.Kept) *wal.Log {
	t.Helper()
	l, kept, err := wal.Open(d)
	if l == nil || err != api.OK || !equal(kept, want) {
		t.Fatalf("Open is %t, %s, %d; want %s", l != nil, short(kept), err, short(want))
	}
	return l
}

// wantNums holds what a log tells of itself against what is wanted.
func wantNums(t *testing.T, l *wal.Log, num, gen, free int) {
	t.Helper()
	if l.Num() != num || l.Gen() != gen || l.Free() != free {
		t.Fatalf("Num, Gen and Free are %d, %d, %d; want %d, %d, %d", l.Num(), l.Gen(), l.Free(), num, gen, free)
	}
}

// wantSectors holds the sectors of a disk with no pending writes against what is
// wanted.
func wantSectors(t *testing.T, d *disk.Disk, want []string) {
	t.Helper()
	got := d.Sectors()
	for at, s := range want {
		if got[at] != s {
			t.Fatalf("sector %d is %q, want %q", at, got[at], s)
		}
	}
	if w := d.Waits(); len(got) != len(want) || len(w) != 0 {
		t.Fatalf("there are %d sectors and %d pending writes, want %d and none", len(got), len(w), len(want))
	}
}

// wantLike holds a log and its disk against those that are kept apart.
func wantLike(t *testing.T, l *wal.Log, d *disk.Disk, p *plain) {
	t.Helper()
	wantNums(t, l, p.num, p.now.Gen, len(p.free()))
	wantSectors(t, d, p.sectors)
}

// wantCall performs a call at both, and holds the error, the operations, the
// disk and the log against each other.
func wantCall(t *testing.T, l *wal.Log, d *disk.Disk, p *plain, c call) {
	t.Helper()
	ops := d.Ops()
	want := c.plainly(p)
	if got := c.at(l); got != want {
		t.Fatalf("%s has the error %d, want %d", short(c), got, want)
	}
	if d.Ops() != ops+len(p.ops) {
		t.Fatalf("%s took %d operations, want %d", short(c), d.Ops()-ops, len(p.ops))
	}
	wantLike(t, l, d, p)
}

// wantOpen opens a disk anew on which all is in order: it takes no operation,
// changes nothing, and tells what was kept.
func wantOpen(t *testing.T, d *disk.Disk, p *plain) *wal.Log {
	t.Helper()
	ops := d.Ops()
	l := opened(t, d, p.kept)
	if d.Ops() != ops {
		t.Fatalf("Open took %d operations, want none", d.Ops()-ops)
	}
	wantLike(t, l, d, p)
	return l
}
