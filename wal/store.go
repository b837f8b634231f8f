package wal

import (
	"slices"
	"strings"

	"drayman/api"
	"drayman/frame"
	"drayman/segs"
	"drayman/stamp"
	"drayman/super"
)

// current is the superblock that counts. A disk that has none begins with an
// empty log.
func (l *Log) current() api.Super {
	x, _, err := super.Best(l.read(0), l.read(1))
	if err != api.OK {
		x = api.Super{Gen: 1, Log: []int{0}}
		l.must(segs.Erase(l.d, segs.Sectors(x.Log...)...))
		l.store(x)
	}
	if slices.Max(slices.Concat(x.Check, x.Log)) >= segs.Count(l.d.Size()) {
		raise(api.ErrBad)
	}
	return x
}

// base is the base that the superblock tells of, and whether there is one.
func (l *Log) base() (string, bool) {
	if len(l.now.Check) == 0 {
		return "", false
	}
	s, _, is := l.text(segs.Sectors(l.now.Check...), l.now.CheckGen)
	if !is || len(s) != l.now.Size {
		raise(api.ErrBad)
	}
	return s, true
}

// batches reads batch by batch what stands in the log, as far as it goes.
func (l *Log) batches() [][]string {
	var all [][]string
	for {
		frames, n, is := l.text(l.left(), l.num+1)
		if !is {
			return all
		}
		records, err := frame.Take(frames)
		if err != api.OK || len(records) == 0 {
			raise(api.ErrBad)
		}
		all = append(all, records)
		l.num, l.used = l.num+1, l.used+n
	}
}

// text is the text whose parts, sealed with num, stand in sectors from the first
// one on, and how many these are, if they stand there, all of them.
func (l *Log) text(sectors []int, num int) (string, int, bool) {
	var parts []string
	for i, count := 0, 1; i < count; i++ {
		if i == len(sectors) {
			return "", 0, false
		}
		x, part, err := stamp.Open(l.read(sectors[i]))
		if i == 0 {
			count = x.Count
		}
		if err != api.OK || x != (api.Stamp{Num: num, Index: i, Count: count}) {
			return "", 0, false
		}
		parts = append(parts, part)
	}
	s := strings.Join(parts, "")
	// Divided elsewhere, these are the parts of no text.
	if !slices.Equal(parts, stamp.Split(s)) {
		return "", 0, false
	}
	return s, len(parts), true
}

// store stores a superblock.
func (l *Log) store(x api.Super) {
	s, wrong := super.Encode(x)
	raise(wrong)
	slot := super.Slot(x.Gen)
	l.must(segs.Erase(l.d, slot))
	l.must(l.d.Write(slot, s))
	l.must(l.d.Flush())
}

// write writes the parts of a text, sealed with num, to sectors from the first
// one on, and flushes.
func (l *Log) write(sectors []int, parts []string, num int) {
	for i, part := range parts {
		s, wrong := stamp.Seal(api.Stamp{Num: num, Index: i, Count: len(parts)}, part)
		raise(wrong)
		l.must(l.d.Write(sectors[i], s))
	}
	l.must(l.d.Flush())
}

// read is what a sector has.
func (l *Log) read(at int) string {
	s, err := l.d.Read(at)
	l.must(err)
	return s
}

// must raises an error of the disk, if there is one: the log is stopped by it.
func (l *Log) must(err api.Errno) {
	if err != api.OK {
		l.stopped = true
	}
	raise(err)
}

// raise ends the exported function that is running with an error, if there is
// one.
func raise(err api.Errno) {
	if err != api.OK {
		panic(err)
	}
}

// caught is the error that was raised, if there was one. What else ended the
// function is no error of a call, and goes on.
func caught(raised any) api.Errno {
	if raised == nil {
		return api.OK
	}
	err, is := raised.(api.Errno)
	if !is {
		panic(raised)
	}
	return err
}
