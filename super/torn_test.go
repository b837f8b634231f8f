package super_test

import (
	"testing"

	"drayman/api"
	"drayman/disk"
	"drayman/stamp"
	"drayman/super"
)

// sameSumGen is a Gen whose bytes leave a checksum as so many bytes 0 would:
// the checksum does not tell whether such a mark was blanked.
const sameSumGen = 0x410671db01

// torn is a sector after a write to it of which only n bytes were performed.
func torn(fresh string, n int, old string) string { return fresh[:n] + old[n:] }

// turn is what happens to the two slots at one time: of three superblocks, one
// after the other, elder stands in the slot where fresh will, and other counts.
type turn struct{ elder, other, fresh api.Super }

// turns are such with marks that end in bytes 0 or do not, and with few and
// with many fields.
func turns() []turn {
	var l []turn
	for _, gen := range []int{2, 3, 255, 256, 257, 65535, 65536, sameSumGen - 1, sameSumGen, sameSumGen + 1, api.Most - 1} {
		few := turn{
			api.Super{Gen: gen - 1, Log: []int{0}},
			api.Super{Gen: gen, Base: 7, Log: []int{0, 1}},
			api.Super{Gen: gen + 1, Base: 9, Log: []int{0, 1, 2}},
		}
		many := turn{
			api.Super{Gen: gen - 1, Base: api.Most, Size: 51584, CheckGen: 1, Check: span(1, 63), Log: []int{0}},
			api.Super{Gen: gen, Base: api.Most, Log: span(0, 63)},
			api.Super{Gen: gen + 1, Base: api.Most, Size: 832, CheckGen: gen, Check: []int{62}, Log: span(0, 62)},
		}
		l = append(l, few, many, turn{few.elder, many.other, few.fresh}, turn{many.elder, few.other, many.fresh})
	}
	return l
}

// places are where a write is torn: in and around each part of a sector.
func places() []int {
	return []int{0, 1, 5, 6, 7, 8, 9, 10, 12, 15, 16, 17, 20, 40, 64, 100, 119, 120, 121, 124, 125, 126, 127, 128}
}

// all is each place at which a write can be torn.
func all() []int { return span(0, 129) }

// counts answers which superblock counts, of those of the slot that is written
// and of the other one; in no other may it end.
func (c turn) counts(t *testing.T, slot string) api.Super {
	t.Helper()
	sectors := [2]string{slot, slot}
	at := super.Slot(c.other.Gen)
	sectors[at] = sectorOf(c.other)
	x, n, err := super.Best(sectors[0], sectors[1])
	switch {
	case err == api.OK && n == at && equal(x, c.other):
		return c.other
	case err == api.OK && n == 1-at && equal(x, c.fresh):
		return c.fresh
	}
	t.Fatalf("%v, slot %x: Best is %v, %d, %d", c, slot, x, n, err)
	return api.Super{}
}

// blanked holds that the other superblock counts, while a slot is blanked, torn
// at one of the places.
func (c turn) blanked(t *testing.T, slot string, at []int) {
	t.Helper()
	for _, n := range at {
		if b := torn(zeros(128), n, slot); !equal(c.counts(t, b), c.other) {
			t.Fatalf("%v, slot %x: the new one counts before it is written", c, b)
		}
	}
}

// TestBlanked is of P7.4: the elder superblock is blanked, torn at each place,
// as it is, or torn when it was written, and blanked in part before.
func TestBlanked(t *testing.T) {
	for _, c := range turns() {
		elder := sectorOf(c.elder)
		c.blanked(t, elder, all())
		for _, n := range all() {
			c.blanked(t, torn(elder, n, zeros(128)), places())
		}
		for _, n := range places() {
			c.blanked(t, torn(elder, n, zeros(128)), all())
			for _, m := range places() {
				c.blanked(t, torn(zeros(128), m, torn(elder, n, zeros(128))), places())
			}
		}
	}
}

// TestWritten is of P7.4: the new superblock is written to the blank slot, torn
// at each place. It counts if nothing but bytes 0 were lost, and not before.
func TestWritten(t *testing.T) {
	for _, c := range turns() {
		fresh := sectorOf(c.fresh)
		for _, n := range all() {
			b := torn(fresh, n, zeros(128))
			if got := c.counts(t, b); equal(got, c.fresh) != (b == fresh) {
				t.Fatalf("%v, the new one torn at %d: %v counts", c, n, got)
			}
			// And what was torn is blanked again.
			for _, m := range places() {
				d := torn(zeros(128), m, b)
				if got := c.counts(t, d); equal(got, c.fresh) != (d == fresh) {
					t.Fatalf("%v, the new one torn at %d, blanked to %d: %v counts", c, n, m, got)
				}
			}
		}
	}
}

// atDisk makes a disk with what the two slots are, and one more sector.
func (c turn) atDisk(t *testing.T, slot string) *disk.Disk {
	t.Helper()
	sectors := []string{slot, slot, zeros(128)}
	sectors[super.Slot(c.other.Gen)] = encoded(t, c.other)
	d, err := disk.Load(sectors)
	if err != api.OK {
		t.Fatalf("Load has the error %d", err)
	}
	return d
}

// store blanks the slot of the new superblock, unless it is blank, and writes
// it there; each ahead of a Flush. It ends at the first error.
func (c turn) store(t *testing.T, d *disk.Disk) api.Errno {
	t.Helper()
	slot := super.Slot(c.fresh.Gen)
	old, err := d.Read(slot)
	if err != api.OK {
		return err
	}
	l := []string{zeros(128), encoded(t, c.fresh)}
	if stamp.Blank(old) {
		l = l[1:]
	}
	for _, s := range l {
		if err := d.Write(slot, s); err != api.OK {
			return err
		}
		if err := d.Flush(); err != api.OK {
			return err
		}
	}
	return api.OK
}

// crashed stores the new superblock, stops at an operation, and crashes: what
// was pending is kept, torn at some place, or lost.
func (c turn) crashed(t *testing.T, d *disk.Disk, op int, keep bool, tear int) {
	t.Helper()
	d.Fuse(op)
	if err := c.store(t, d); err != api.ErrDead {
		t.Fatalf("%v: stopped at operation %d, it ends with %d", c, op, err)
	}
	if err := d.Crash([]bool{keep}, tear); err != api.OK {
		t.Fatalf("Crash has the error %d", err)
	}
}

// TestStored is of P7.4: on a disk that stops at each operation, twice, and
// crashes, torn at each place; then the new superblock is stored, and counts.
func TestStored(t *testing.T) {
	for _, c := range turns()[:12] {
		for first := 1; first <= 4; first++ {
			for _, tear := range all()[:128] {
				for _, keep := range []bool{true, false} {
					d := c.atDisk(t, encoded(t, c.elder))
					c.crashed(t, d, first, keep, tear)
					c.counts(t, d.Sectors()[super.Slot(c.fresh.Gen)])
					c.storedAgain(t, d, 1+tear%2, 127-tear)
				}
			}
		}
	}
}

// storedAgain stores once more, with one more crash on the way, and then to the
// end.
func (c turn) storedAgain(t *testing.T, d *disk.Disk, op, tear int) {
	t.Helper()
	slot := super.Slot(c.fresh.Gen)
	c.crashed(t, d, op, true, tear)
	c.counts(t, d.Sectors()[slot])
	if err := c.store(t, d); err != api.OK {
		t.Fatalf("%v: stored at last, with the error %d", c, err)
	}
	if got := c.counts(t, d.Sectors()[slot]); !equal(got, c.fresh) {
		t.Fatalf("%v: stored at last, and %v counts", c, got)
	}
}
