package wal_test

import (
	"maps"
	"slices"
	"strconv"
	"strings"
	"testing"

	"drayman/api"
	"drayman/disk"
	"drayman/wal"
)

// laid is the sectors of a disk with a superblock, and with what stands in the
// first sectors of its Check and of its Log.
func laid(total int, x api.Super, check, log []string) []string {
	all := slices.Repeat([]string{blank()}, total)
	all[x.Gen%2] = superOf(x)
	for i, s := range check {
		all[sectorsOf(x.Check)[i]] = s
	}
	for i, s := range log {
		all[sectorsOf(x.Log)[i]] = s
	}
	return all
}

// wantNoOpen holds that a disk is not opened, and is not changed.
func wantNoOpen(t *testing.T, what string, d *disk.Disk, want api.Errno) {
	t.Helper()
	sectors, waits, ops, dead := d.Sectors(), d.Waits(), d.Ops(), d.Dead()
	l, kept, err := wal.Open(d)
	if l != nil || !equal(kept, api.Kept{}) || err != want {
		t.Fatalf("%s: Open is %t, %s, %d; want %d", what, l != nil, short(kept), err, want)
	}
	if !slices.Equal(d.Sectors(), sectors) || !slices.Equal(d.Waits(), waits) || d.Ops() != ops || d.Dead() != dead {
		t.Fatalf("%s: Open with an error changes the disk", what)
	}
}

// wantOpenAs opens a disk that has sectors, holds what was kept, and that all
// sectors behind used ones of the log are erased and no others are changed.
func wantOpenAs(t *testing.T, what string, sectors []string, x api.Super, used int, want api.Kept) {
	t.Helper()
	d := loaded(t, sectors)
	l, kept, err := wal.Open(d)
	if l == nil || err != api.OK || !equal(kept, want) {
		t.Fatalf("%s: Open is %t, %s, %d; want %s", what, l != nil, short(kept), err, short(want))
	}
	p := &plain{sectors: slices.Clone(sectors), now: x, num: x.Base + len(want.Batches), used: used, kept: want}
	p.erase(p.left())
	if d.Ops() != len(p.ops) {
		t.Fatalf("%s: Open took %d operations, want %d", what, d.Ops(), len(p.ops))
	}
	wantLike(t, l, d, p)
	// And once more, and with a batch behind the others.
	l = wantOpen(t, d, p)
	wantCall(t, l, d, p, app("more", "yet more"))
	wantOpen(t, d, p)
}

// TestExample is of P10.1 to P10.4: the chapter's examples.
func TestExample(t *testing.T) {
	for _, total := range []int{20, 26} {
		d := loaded(t, slices.Repeat([]string{blank()}, total))
		l := opened(t, d, api.Kept{})
		wantNums(t, l, 0, 1, segments(total)-1)
		if l.Append("a") != api.OK || l.Append("b") != api.OK {
			t.Fatal("Append has an error")
		}
		wantNums(t, l, 2, 1, segments(total)-1)
		l = opened(t, d, api.Kept{Batches: [][]string{{"a"}, {"b"}}})
		wantNums(t, l, 2, 1, segments(total)-1)
		if total == 20 { // One free segment is not enough for a base and a log.
			if err := l.Check("x"); err != api.ErrFull {
				t.Fatalf("Check has the error %d", err)
			}
			continue
		}
		if l.Check("x") != api.OK || l.Append("c") != api.OK {
			t.Fatal("Check or Append has an error")
		}
		wantNums(t, l, 3, 2, 1)
		l = opened(t, d, api.Kept{Has: true, Base: "x", Batches: [][]string{{"c"}}})
		wantNums(t, l, 3, 2, 1)
	}
}

// TestOpenOfNoDisk is of P10.1.
func TestOpenOfNoDisk(t *testing.T) {
	for _, d := range []*disk.Disk{nil, new(disk.Disk)} {
		if l, kept, err := wal.Open(d); l != nil || !equal(kept, api.Kept{}) || err != api.ErrArg {
			t.Errorf("Open of no disk is %t, %v, %d", l != nil, kept, err)
		}
	}
}

// TestOpenOfStopped is of P10.1: whatever the disk has, and however few sectors.
func TestOpenOfStopped(t *testing.T) {
	bad := api.Super{Gen: 1, Log: []int{62}}
	for _, sectors := range [][]string{
		slices.Repeat([]string{blank()}, 2), slices.Repeat([]string{blank()}, 9), slices.Repeat([]string{blank()}, 10),
		slices.Repeat([]string{filled('x')}, 26), fresh(18).sectors, laid(10, bad, nil, nil),
	} {
		d := loaded(t, sectors)
		d.Fuse(1)
		if d.Flush() != api.ErrDead {
			t.Fatal("the disk is not stopped")
		}
		wantNoOpen(t, "a stopped disk", d, api.ErrDead)
	}
}

// TestOpenOfSizes is of P10.1 and P10.4: blank disks of each size. With a
// segment, it takes two operations: the superblock is written, and flushed.
func TestOpenOfSizes(t *testing.T) {
	for total := 2; total <= 512; total++ {
		d := loaded(t, slices.Repeat([]string{blank()}, total))
		if total < 10 {
			wantNoOpen(t, "a disk of no segment", d, api.ErrRange)
			continue
		}
		l := opened(t, d, api.Kept{})
		if d.Ops() != 2 {
			t.Fatalf("Open of a blank disk took %d operations", d.Ops())
		}
		p := fresh(total)
		wantLike(t, l, d, p)
		l = wantOpen(t, d, p)
		wantCall(t, l, d, p, app("a"))
		wantOpen(t, d, p)
	}
}

// TestOpenOfSmall is of P10.1: a disk of no segment, whatever it has.
func TestOpenOfSmall(t *testing.T) {
	for total := 2; total < 10; total++ {
		wantNoOpen(t, "a disk of no segment", loaded(t, slices.Repeat([]string{filled('x')}, total)), api.ErrRange)
		sectors := slices.Repeat([]string{blank()}, total)
		sectors[1] = superOf(api.Super{Gen: 1, Log: []int{0}})
		wantNoOpen(t, "a disk of no segment", loaded(t, sectors), api.ErrRange)
	}
}

// TestOpenOfAnything is of P10.1: disks with no superblock, but with bytes of
// anything. What stands in the slot of Gen 1 and in segment 0 is erased, and
// nothing else is changed.
func TestOpenOfAnything(t *testing.T) {
	one := superOf(api.Super{Gen: 1, Log: []int{0}})
	slots := []string{
		blank(), filled('x'), filled('\xff'), one[:127] + "\x01", one[:64] + blank()[64:], sealed(1, 0, 1, ""),
		sealed(1, 0, 1, "ab"), sealed(2, 0, 2, one[16:23]), bytesOf(128), batch(1, "a")[0],
	}
	for _, first := range slots {
		for _, second := range slots {
			for _, rest := range []string{blank(), filled('z'), batch(1, "a")[0], one} {
				p := &plain{sectors: slices.Repeat([]string{rest}, 20)}
				p.sectors[0], p.sectors[1] = first, second
				d := loaded(t, p.sectors)
				p.erase(sectorsOf([]int{0}))
				p.store(api.Super{Gen: 1, Log: []int{0}})
				l := opened(t, d, api.Kept{})
				if d.Ops() != len(p.ops) {
					t.Fatalf("Open took %d operations, want %d", d.Ops(), len(p.ops))
				}
				wantLike(t, l, d, p)
				wantCall(t, wantOpen(t, d, p), d, p, app("b"))
			}
		}
	}
}

// TestOpenOfSlots is of P10.1: of two superblocks the one with the greater Gen
// counts, whichever slot it stands in; and the only one.
func TestOpenOfSlots(t *testing.T) {
	for _, gen := range []int{1, 2, 3, 4, 255, 256, api.Most - 1} {
		elder := api.Super{Gen: gen, Base: 4, Log: []int{1}}
		x := api.Super{Gen: gen + 1, Base: 7, Log: []int{0, 2}}
		sectors := laid(26, x, nil, batch(8, "a", "b"))
		for _, other := range []string{blank(), filled('x'), superOf(elder), superOf(elder)[:100] + blank()[100:]} {
			sectors[gen%2] = other
			wantOpenAs(t, "two slots", sectors, x, 1, api.Kept{Batches: [][]string{{"a", "b"}}})
		}
		// One that is not where it belongs counts as well.
		sectors[x.Gen%2], sectors[gen%2] = filled('y'), superOf(x)
		opened(t, loaded(t, sectors), api.Kept{Batches: [][]string{{"a", "b"}}})
	}
}

// TestOpenOfMissingSegments is of P10.1: a superblock that names a segment which
// the disk does not have, though all else is right, or is wrong too.
func TestOpenOfMissingSegments(t *testing.T) {
	for _, total := range []int{10, 11, 17, 18, 26, 200, 505} {
		n := segments(total)
		for _, k := range []int{n, n + 1, 61, 62} {
			if k < n || k > 62 {
				continue
			}
			for _, x := range []api.Super{
				{Gen: 3, Log: []int{k}}, {Gen: 3, Log: []int{0, k}}, {Gen: 3, Log: []int{k, 0}},
				{Gen: 3, CheckGen: 2, Size: 1, Check: []int{k}, Log: []int{0}}, {Gen: 3, CheckGen: 2, Size: 1, Check: []int{0}, Log: []int{k}},
			} {
				sectors := slices.Repeat([]string{blank()}, total)
				sectors[0], sectors[1] = superOf(api.Super{Gen: 2, Log: []int{0}}), superOf(x)
				wantNoOpen(t, "a missing segment", loaded(t, sectors), api.ErrBad)
				for i := 2; i < total; i++ {
					sectors[i] = parted(2, "b")[0]
				}
				wantNoOpen(t, "a missing segment", loaded(t, sectors), api.ErrBad)
			}
			// The superblock that does not count may name it.
			sectors := slices.Repeat([]string{blank()}, total)
			sectors[0], sectors[1] = superOf(api.Super{Gen: 2, Log: []int{k}}), superOf(api.Super{Gen: 3, Log: []int{0}})
			opened(t, loaded(t, sectors), api.Kept{})
		}
		// The last one that the disk has.
		x := api.Super{Gen: 3, Log: []int{n - 1}}
		opened(t, loaded(t, laid(total, x, nil, batch(1, "a"))), api.Kept{Batches: [][]string{{"a"}}})
	}
}

// TestOpenOfBase is of P10.1: bases of any length, whatever stands behind them
// in their segments, with and without batches.
func TestOpenOfBase(t *testing.T) {
	for _, size := range []int{0, 1, 103, 104, 105, 207, 208, 209, 831, 832, 833, 1664, 1665, 2496} {
		for _, check := range [][]int{{1}, {2, 1}, {1, 4, 2}, {4, 5, 2, 1}} {
			base := bytesOf(size)
			l := parted(6, base)
			if len(l) > 8*len(check) {
				continue
			}
			x := api.Super{Gen: 8, Base: 41, Size: size, CheckGen: 6, Check: check, Log: []int{3, 0}}
			sectors := laid(50, x, l, batch(42, "a"))
			wantOpenAs(t, "a base", sectors, x, 1, api.Kept{Has: true, Base: base, Batches: [][]string{{"a"}}})
			for _, at := range sectorsOf(check)[len(l):] {
				sectors[at] = parted(6, base)[0]
			}
			wantOpenAs(t, "a base", sectors, x, 1, api.Kept{Has: true, Base: base, Batches: [][]string{{"a"}}})
			sectors[sectorsOf(x.Log)[0]] = blank()
			wantOpenAs(t, "a base alone", sectors, x, 0, api.Kept{Has: true, Base: base})
		}
	}
}

// wrongs are lists of sectors that are not those of a text which is sealed with
// 6: one is missing, torn, in another place, or sealed with something else.
func wrongs(s string) map[string][]string {
	l, parts := parted(6, s), cut(s)
	n := len(l)
	all := map[string][]string{
		"another number": parted(7, s), "one before": parted(5, s), "in the other order": append(l[n-1:n:n], l[:n-1]...), "none": nil,
	}
	for i, part := range parts {
		at := strconv.Itoa(i)
		with := func(s string) []string {
			m := slices.Clone(l)
			m[i] = s
			return m
		}
		all["blank at "+at] = with(blank())
		all["anything at "+at] = with(filled('x'))
		for _, n := range []int{1, 6, 8, 17, 64, 120, 125} {
			all["torn at "+at+" behind "+strconv.Itoa(n)] = with(l[i][:n] + blank()[n:])
			all["blanked at "+at+" to "+strconv.Itoa(n)] = with(blank()[:n] + l[i][n:])
		}
		all["a bit at "+at] = with(l[i][:20] + string([]byte{l[i][20] ^ 1}) + l[i][21:])
		all["another number at "+at] = with(sealed(7, i, n, part))
		all["one before at "+at] = with(sealed(5, i, n, part))
		all["another index at "+at] = with(sealed(6, i+1, n+2, part))
		all["more of them at "+at] = with(sealed(6, i, n+1, part))
		if n > 2 && i < n-1 { // Of two, the first would be all.
			all["fewer of them at "+at] = with(sealed(6, i, n-1, part))
		}
		if i < n-1 {
			all["the next one at "+at] = with(l[i+1])
			all["divided elsewhere at "+at] = with(sealed(6, i, n, part[:103]))
			all["one byte less at "+at] = with(sealed(6, i, n, part[1:]))
		}
	}
	// Where what is lost were bytes 0, nothing is.
	maps.DeleteFunc(all, func(_ string, m []string) bool { return slices.Equal(m, l) })
	return all
}

// TestOpenOfWrongBase is of P10.1: sectors of Check that are not those of a base
// of Size bytes.
func TestOpenOfWrongBase(t *testing.T) {
	for _, size := range []int{0, 1, 104, 105, 300, 832} {
		base := bytesOf(size)
		x := api.Super{Gen: 9, Base: 3, Size: size, CheckGen: 6, Check: []int{2, 1}, Log: []int{0}}
		for what, l := range wrongs(base) {
			wantNoOpen(t, what, loaded(t, laid(26, x, l, batch(4, "a"))), api.ErrBad)
		}
		l := parted(6, base)
		wantNoOpen(t, "behind a blank one", loaded(t, laid(26, x, append([]string{blank()}, l...), nil)), api.ErrBad)
		for _, other := range []int{size - 105, size - 104, size - 1, size + 1, size + 104, 1664} {
			if other < 0 || other > 1664 {
				continue
			}
			y := x
			y.Size = other
			wantNoOpen(t, "another Size", loaded(t, laid(26, y, l, nil)), api.ErrBad)
		}
		y := x
		y.Check = []int{1, 2}
		wantNoOpen(t, "the segments in another order", loaded(t, swapped(laid(26, x, l, nil), y)), api.ErrBad)
	}
	// More of them than Check has sectors.
	x := api.Super{Gen: 9, Size: 832, CheckGen: 6, Check: []int{1}, Log: []int{2}}
	l := parted(6, bytesOf(833))
	sectors := laid(26, x, l[:8], nil)
	sectors[18] = l[8]
	wantNoOpen(t, "beyond Check", loaded(t, sectors), api.ErrBad)
}

// swapped is sectors with another superblock.
func swapped(sectors []string, x api.Super) []string {
	sectors = slices.Clone(sectors)
	sectors[x.Gen%2] = superOf(x)
	return sectors
}

// TestOpenOfDivided is of P10.1: a text of the right length, but divided
// elsewhere: these are not the sectors of a base, nor those of a batch.
func TestOpenOfDivided(t *testing.T) {
	base := bytesOf(150)
	x := api.Super{Gen: 9, Size: 150, CheckGen: 6, Check: []int{1}, Log: []int{0}}
	for _, n := range []int{46, 75, 103} {
		l := []string{sealed(6, 0, 2, base[:n]), sealed(6, 1, 2, base[n:])}
		wantNoOpen(t, "divided elsewhere", loaded(t, laid(26, x, l, nil)), api.ErrBad)
	}
	x.Size = 104
	l := []string{sealed(6, 0, 2, base[:104]), sealed(6, 1, 2, "")}
	wantNoOpen(t, "with an empty part", loaded(t, laid(26, x, l, nil)), api.ErrBad)
	x = api.Super{Gen: 9, Base: 5, Log: []int{0}}
	s := framed(bytesOf(144))
	for _, n := range []int{46, 75, 103} {
		l := []string{sealed(6, 0, 2, s[:n]), sealed(6, 1, 2, s[n:])}
		wantOpenAs(t, "divided elsewhere", laid(26, x, nil, l), x, 0, api.Kept{})
	}
}

// TestOpenOfBatches is of P10.1: batches of one sector and of many, one behind
// the other, through segments in any order, up to the last sector of the log.
func TestOpenOfBatches(t *testing.T) {
	for _, log := range [][]int{{0}, {2}, {2, 0}, {1, 3, 0}} {
		for _, base := range []int{0, 1, 255, 256, api.Most - 9, api.Most - 1} {
			x := api.Super{Gen: 5, Base: base, Log: log}
			var want api.Kept
			var l []string
			for i := 0; base+len(want.Batches) < api.Most; i++ {
				records := []string{bytesOf(1 + i*83), "z"}
				b := batch(base+1+len(want.Batches), records...)
				if len(l)+len(b) > 8*len(log) {
					break
				}
				l = append(l, b...)
				want.Batches = append(want.Batches, records)
				d := loaded(t, laid(40, x, nil, l))
				p := &plain{sectors: d.Sectors(), now: x, num: base + len(want.Batches), used: len(l), kept: want}
				wantOpen(t, d, p)
			}
		}
	}
}

// TestOpenFillsLog is of P10.1: batches that fill all sectors of the log, so
// that nothing is behind them.
func TestOpenFillsLog(t *testing.T) {
	x := api.Super{Gen: 2, Log: []int{1, 0}}
	full := []string{bytesOf(826)}
	for _, c := range []struct {
		l    []string
		want [][]string
	}{
		{append(batch(1, full...), batch(2, full...)...), [][]string{full, full}},
		{batch(1, full[0], full[0]), [][]string{{full[0], full[0]}}},
		{append(batch(1, bytesOf(98)), batch(2, bytesOf(1554))...), [][]string{{bytesOf(98)}, {bytesOf(1554)}}},
	} {
		if len(c.l) != 16 {
			t.Fatalf("there are %d sectors", len(c.l))
		}
		wantOpenAs(t, "a full log", laid(40, x, nil, c.l), x, 16, api.Kept{Batches: c.want})
	}
}

// TestOpenOfBrokenBatch is of P10.1: a batch of which a sector is missing, torn,
// or of another number ends the log; it and all that is behind it is erased.
func TestOpenOfBrokenBatch(t *testing.T) {
	for _, size := range []int{1, 98, 99, 300} {
		record := bytesOf(size)
		for what, l := range wrongs(framed(record)) {
			// All behind it is not read, though it may be no frames.
			tail := slices.Concat(l, batch(7, "behind"), parted(6, "no frames"), batch(6, "again"))
			x := api.Super{Gen: 5, Base: 5, Log: []int{2, 0}}
			wantOpenAs(t, what, laid(26, x, nil, l), x, 0, api.Kept{})
			if len(l) > 0 {
				wantOpenAs(t, what, laid(26, x, nil, tail), x, 0, api.Kept{})
			}
			x.Base = 3
			ahead := append(batch(4, "a", "b"), batch(5, bytesOf(200))...)
			want := api.Kept{Batches: [][]string{{"a", "b"}, {bytesOf(200)}}}
			wantOpenAs(t, what, laid(26, x, nil, append(ahead, l...)), x, len(ahead), want)
			if len(l) > 0 {
				wantOpenAs(t, what, laid(26, x, nil, append(ahead, tail...)), x, len(ahead), want)
			}
		}
	}
}

// TestOpenOfGap is of P10.1: behind a blank sector there is no batch, and one
// whose number was there already, or is too great, is none.
func TestOpenOfGap(t *testing.T) {
	x := api.Super{Gen: 5, Base: 5, Log: []int{2, 0}}
	for _, n := range []int{1, 7, 8, 15} {
		l := append(slices.Repeat([]string{blank()}, n), batch(6, "a")...)
		wantOpenAs(t, "a gap", laid(26, x, nil, l), x, 0, api.Kept{})
	}
	for _, num := range []int{1, 5, 6, 8, api.Most} {
		l := append(batch(6, "a"), batch(num, "b")...)
		wantOpenAs(t, "another number", laid(26, x, nil, l), x, 1, api.Kept{Batches: [][]string{{"a"}}})
	}
	x.Base = api.Most
	sectors := laid(26, x, nil, batch(api.Most, "a"))
	d := loaded(t, sectors)
	l := opened(t, d, api.Kept{})
	wantNums(t, l, api.Most, 5, 1)
	wantSectors(t, d, laid(26, x, nil, nil))
}

// TestOpenBeyondLog is of P10.1: a batch that goes on behind the sectors of the
// log is not complete, though its other sectors stand on the disk.
func TestOpenBeyondLog(t *testing.T) {
	b := batch(1, bytesOf(900))
	x := api.Super{Gen: 1, Log: []int{0}}
	sectors := laid(26, x, nil, b[:8])
	sectors[10] = b[8]
	wantOpenAs(t, "beyond the log", sectors, x, 0, api.Kept{})
}

// TestOpenOfNoFrames is of P10.1: a complete batch that does not consist of
// frames, or has none, wherever it stands.
func TestOpenOfNoFrames(t *testing.T) {
	good := framed("a", "bc")
	for _, s := range []string{
		"", "x", "\x00", "\x00\x00", good[:len(good)-1], good + "\x00", good + "\x00\x00", good[:len(good)-1] + "d", good[1:],
		"\x00\x00" + good, "\x10\x01" + strings.Repeat("x", 5000), bytesOf(104), bytesOf(500), framed(bytesOf(300))[:250], framed(bytesOf(300)) + "x",
	} {
		for _, ahead := range [][]string{nil, batch(6, "a"), batch(6, bytesOf(98), "a")} {
			num := 6 + min(1, len(ahead))
			x := api.Super{Gen: 5, Base: 5, Log: []int{2, 0, 1, 4, 5, 6, 7, 8}}
			l := append(slices.Clone(ahead), parted(num, s)...)
			wantNoOpen(t, "no frames", loaded(t, laid(82, x, nil, l)), api.ErrBad)
			wantNoOpen(t, "no frames", loaded(t, laid(82, x, nil, append(l, filled('x')))), api.ErrBad)
			y := api.Super{Gen: 5, Base: 5, Size: 1, CheckGen: 5, Check: []int{3}, Log: x.Log}
			wantNoOpen(t, "no frames", loaded(t, laid(82, y, parted(5, "b"), l)), api.ErrBad)
		}
	}
}

// TestOpenErases is of P10.1: all sectors of the log behind the batches are
// blank afterwards, and those of other segments, and of a base, stay.
func TestOpenErases(t *testing.T) {
	for _, used := range []int{0, 1, 3, 7} {
		for from := used; from <= 24; from++ {
			var l []string
			var want api.Kept
			for i := range used {
				l = append(l, batch(11+i, "a")...)
				want.Batches = append(want.Batches, []string{"a"})
			}
			x := api.Super{Gen: 5, Base: 10, Size: 2, CheckGen: 4, Check: []int{1}, Log: []int{4, 0, 2}}
			sectors := laid(50, x, parted(4, "xy"), l)
			for i, at := range sectorsOf([]int{4, 0, 2}) {
				if i >= from && i%3 != 1 {
					sectors[at] = filled('x')
				}
			}
			for _, at := range sectorsOf([]int{3, 5}) {
				sectors[at] = filled('y')
			}
			sectors[0], sectors[42] = filled('z'), filled('z')
			want.Has, want.Base = true, "xy"
			wantOpenAs(t, "leftovers", sectors, x, used, want)
		}
	}
}
