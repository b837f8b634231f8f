package frame_test

import (
	"encoding/binary"
	"hash/crc32"
	"slices"
	"strings"
	"testing"

	"drayman/api"
	"drayman/frame"
)

// scattered is n bytes without a short rule.
func scattered(n int) string {
	b := make([]byte, n)
	x := uint32(n) + 1
	for i := range b {
		x = x*1664525 + 1013904223
		b[i] = byte(x >> 13)
	}
	return string(b)
}

// zeros is n bytes 0.
func zeros(n int) string { return strings.Repeat("\x00", n) }

// headed is a string behind a length and a checksum, which need not be its own.
func headed(length int, sum uint32, s string) string {
	b := binary.BigEndian.AppendUint16(nil, uint16(length))
	return string(binary.BigEndian.AppendUint32(b, sum)) + s
}

// frameOf is the frame of a string, also of one that is no record.
func frameOf(s string) string {
	return headed(len(s), crc32.ChecksumIEEE([]byte(s)), s)
}

// framesOf are the frames of strings, joined.
func framesOf(l ...string) string {
	var b strings.Builder
	for _, record := range l {
		b.WriteString(frameOf(record))
	}
	return b.String()
}

// records are records of many lengths and of all bytes.
func records() []string {
	return []string{
		"a", "b", "ab", "ba", "abc", "\x00", "\x00\x00", "a\x00", "\x00a", "\xff", "\xff\xff\xff\xff", "\x80",
		"ä", "\xc3", "\ufffd", " ", "\n", "123456789", zeros(6), zeros(7), frameOf("a"), framesOf("a", "b"), headed(0, 0, ""),
		scattered(5), scattered(6), scattered(127), scattered(128), scattered(254), scattered(255), scattered(256),
		scattered(257), scattered(511), scattered(512), scattered(1 << 10), scattered(4094), scattered(4095), scattered(4096),
		zeros(4096), strings.Repeat("\xff", 4096),
	}
}

// lists are lists of records whose frames are not too long together.
func lists() [][]string {
	l := [][]string{nil, {}}
	for _, record := range records() {
		l = append(l, []string{record}, []string{record, "a"}, []string{"a", record}, []string{record, record}, []string{"xy", record, "z"})
	}
	return append(l,
		[]string{"a", "b", "c", "d"}, []string{"d", "c", "b", "a"}, []string{"a", "a", "a"},
		[]string{scattered(4096), scattered(4095), scattered(4096)},
		[]string{scattered(1), scattered(2), scattered(3), scattered(255), scattered(256), scattered(257)},
		slices.Repeat([]string{"a"}, 2340), slices.Repeat([]string{"ab", "\x00"}, 1092),
	)
}

// put joins frames, and must get OK.
func put(t *testing.T, l ...string) string {
	t.Helper()
	s, err := frame.Put(l...)
	if err != api.OK {
		t.Fatalf("Put of %d records has the error %d", len(l), err)
	}
	return s
}

// wantPut holds what Put answers against the frames.
func wantPut(t *testing.T, l ...string) {
	t.Helper()
	if got, want := put(t, l...), framesOf(l...); got != want {
		t.Fatalf("Put(%.40q) is %.40x, with %d bytes; want %.40x, with %d", l, got, len(got), want, len(want))
	}
}

// wantNoPut holds what Put answers against an error, and nothing beside it.
func wantNoPut(t *testing.T, want api.Errno, l ...string) {
	t.Helper()
	if s, err := frame.Put(l...); s != "" || err != want {
		t.Fatalf("Put of %d strings of %d bytes in all is %.40x, %d; want the error %d", len(l), len(strings.Join(l, "")), s, err, want)
	}
}

// TestPut is of P8.1: frames that are written out.
func TestPut(t *testing.T) {
	for _, c := range []struct {
		l    []string
		want string
	}{
		{nil, ""},
		{[]string{}, ""},
		{[]string{"a"}, "\x00\x01\xe8\xb7\xbe\x43a"},
		{[]string{"abc"}, "\x00\x03\x35\x24\x41\xc2abc"},
		{[]string{"\x00"}, "\x00\x01\xd2\x02\xef\x8d\x00"},
		{[]string{"a", "123456789"}, "\x00\x01\xe8\xb7\xbe\x43a\x00\x09\xcb\xf4\x39\x26123456789"},
		{[]string{"abc", "a", "abc"}, "\x00\x03\x35\x24\x41\xc2abc\x00\x01\xe8\xb7\xbe\x43a\x00\x03\x35\x24\x41\xc2abc"},
		{[]string{strings.Repeat("\xff", 32), "a"}, "\x00\x20\xff\x6c\xab\x0b" + strings.Repeat("\xff", 32) + "\x00\x01\xe8\xb7\xbe\x43a"},
	} {
		if got := put(t, c.l...); got != c.want {
			t.Errorf("Put(%q) is %x, want %x", c.l, got, c.want)
		}
	}
}

// TestPutOfAny is of P8.1: one record or several.
func TestPutOfAny(t *testing.T) {
	for _, l := range lists() {
		wantPut(t, l...)
	}
}

// TestPutOfEachLength is of P8.1: each length that a record may have.
func TestPutOfEachLength(t *testing.T) {
	long := scattered(4097)
	for n := range 4096 {
		wantPut(t, long[:n+1])
	}
	wantNoPut(t, api.ErrArg, long)
	wantNoPut(t, api.ErrArg, long[:0])
}

// TestPutOfNoRecord is of P8.1: a string that is no record, as the first, a
// middle and the last of several, and the shortest and the longest records there.
func TestPutOfNoRecord(t *testing.T) {
	around := [][]string{{"a"}, {"a", "b"}, {"a", "b", "c", "d"}, {scattered(4096), "b"}, {"a", scattered(4096)}, {scattered(4000), scattered(4000)}}
	for _, l := range append(around, nil) {
		for place := range len(l) + 1 {
			for _, s := range []string{"", scattered(4097), scattered(4098), zeros(8192), zeros(16378), zeros(65536), zeros(65537), zeros(1<<20 + 1)} {
				wantNoPut(t, api.ErrArg, slices.Insert(slices.Clone(l), place, s)...)
			}
			for _, s := range []string{"x", "\x00", scattered(4096)} {
				wantPut(t, slices.Insert(slices.Clone(l), place, s)...)
			}
		}
	}
	wantNoPut(t, api.ErrArg, "", "")
	wantNoPut(t, api.ErrArg, slices.Repeat([]string{""}, 5000)...)
}

// full are lists of records whose frames have 16384 bytes together.
func full() [][]string {
	return [][]string{
		{scattered(4096), scattered(4096), scattered(4096), scattered(4072)},
		{scattered(4072), scattered(4096), scattered(4096), scattered(4096)},
		{scattered(4090), scattered(4090), scattered(4090), scattered(4090)},
		{scattered(4096), scattered(4096), scattered(4096), scattered(4065), "a"},
		append(slices.Repeat([]string{"\x00"}, 2339), "abcde"),
		slices.Repeat([]string{"ab"}, 2048),
		slices.Repeat([]string{scattered(58)}, 256),
	}
}

// tooLong are lists of records whose frames have more than 16384 bytes
// together, some of them just one more.
func tooLong() [][]string {
	return [][]string{
		{scattered(4096), scattered(4096), scattered(4096), scattered(4073)},
		{scattered(4073), scattered(4096), scattered(4096), scattered(4096)},
		{scattered(4090), scattered(4090), scattered(4091), scattered(4090)},
		{scattered(4096), scattered(4096), scattered(4096), scattered(4065), "ab"},
		{scattered(4096), scattered(4096), scattered(4096), scattered(4096)},
		append(slices.Repeat([]string{"\x00"}, 2339), "abcdef"),
		append(slices.Repeat([]string{"ab"}, 2047), "abc"),
		append(slices.Repeat([]string{"ab"}, 2048), "a"),
		slices.Repeat([]string{"a"}, 2341), slices.Repeat([]string{"a"}, 1<<14), slices.Repeat([]string{"a"}, 1<<16),
		slices.Repeat([]string{scattered(4096)}, 16), slices.Repeat([]string{scattered(4096)}, 1<<10),
	}
}

// TestPutOfLong is of P8.1: just as many bytes as there may be, and more.
func TestPutOfLong(t *testing.T) {
	for _, l := range full() {
		if n := len(framesOf(l...)); n != 16384 {
			t.Fatalf("the frames have %d bytes", n)
		}
		wantPut(t, l...)
		// One that still is a record when it is longer by a byte.
		l[slices.IndexFunc(l, func(s string) bool { return len(s) < 4096 })] += "+"
		wantNoPut(t, api.ErrLong, l...)
	}
	for _, l := range tooLong() {
		wantNoPut(t, api.ErrLong, l...)
	}
}

// TestPutOfBoth is of P8.1: a wrong record comes ahead of too many bytes,
// wherever it stands.
func TestPutOfBoth(t *testing.T) {
	for _, l := range append(tooLong(), full()...) {
		for _, place := range []int{0, 1, len(l) / 2, len(l) - 1, len(l)} {
			for _, s := range []string{"", scattered(4097), zeros(1 << 15)} {
				wantNoPut(t, api.ErrArg, slices.Insert(slices.Clone(l), place, s)...)
			}
		}
	}
}

// TestPutKeeps is of rule 0.5: the list that is handed in stays as it is.
func TestPutKeeps(t *testing.T) {
	for _, l := range append(append(lists(), tooLong()...), []string{"a", "", "b"}) {
		// Room behind the list, into which nothing may be written.
		given := append(slices.Clone(l), "behind")
		frame.Put(given[:len(l)]...)
		frame.Size(given[:len(l)]...)
		if !slices.Equal(given[:len(l)], l) || given[len(l)] != "behind" {
			t.Fatalf("%.40q became %.40q", l, given)
		}
	}
}

// wantSize holds what Size answers against what is wanted.
func wantSize(t *testing.T, want int, l ...string) {
	t.Helper()
	if got := frame.Size(l...); got != want {
		t.Errorf("Size of %d strings of %d bytes in all is %d, want %d", len(l), len(strings.Join(l, "")), got, want)
	}
}

// TestSize is of P8.1: of strings, whatever they are.
func TestSize(t *testing.T) {
	wantSize(t, 0)
	wantSize(t, 0, []string{}...)
	wantSize(t, 8, "ab")
	wantSize(t, 6, "")
	wantSize(t, 12, "", "")
	wantSize(t, 13, "", "a")
	wantSize(t, 13, "a", "")
	wantSize(t, 6*1000, make([]string, 1000)...)
	wantSize(t, 8, "ä")
	wantSize(t, 7, "\xff")
	wantSize(t, 4102, zeros(4096))
	wantSize(t, 4103, zeros(4097))
	wantSize(t, 8210, zeros(4097), "a", zeros(4094))
	wantSize(t, 16390, zeros(16384))
	wantSize(t, 65541, zeros(65535))
	wantSize(t, 65542, zeros(65536))
	wantSize(t, 1<<20+12, zeros(1<<20), "")
	// One string many times, so that the sum passes 32 bits.
	wantSize(t, 1<<13*(1<<20+6), slices.Repeat([]string{zeros(1 << 20)}, 1<<13)...)
}

// TestSizeOfFrames is of P8.1: as many bytes as the frames have, also of those
// that Put does not return.
func TestSizeOfFrames(t *testing.T) {
	for _, l := range append(append(lists(), full()...), tooLong()[:5]...) {
		wantSize(t, len(framesOf(l...)), l...)
		wantSize(t, len(framesOf(l...))+6+6+4097, append(slices.Clone(l), "", zeros(4097))...)
	}
	for n := range 5000 {
		wantSize(t, n+6, zeros(n))
		wantSize(t, 2*n+19, zeros(n), "a", zeros(n))
	}
}
