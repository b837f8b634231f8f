package frame_test

import (
	"encoding/binary"
	"hash/crc32"
	"slices"
	"testing"

	"drayman/api"
	"drayman/frame"
)

// wantTake holds what Take answers against records.
func wantTake(t *testing.T, s string, want ...string) {
	t.Helper()
	if l, err := frame.Take(s); !slices.Equal(l, want) || err != api.OK {
		t.Fatalf("Take(%.60x) of %d bytes is %d records, %.40q, %d; want %d, %.40q", s, len(s), len(l), l, err, len(want), want)
	}
}

// wantNoTake holds what Take answers against an error, and nothing beside it.
func wantNoTake(t *testing.T, want api.Errno, s string) {
	t.Helper()
	if l, err := frame.Take(s); len(l) != 0 || err != want {
		t.Fatalf("Take(%.60x) of %d bytes is %d records, %.40q, %d; want the error %d", s, len(s), len(l), l, err, want)
	}
}

// taken is the chapter's Take, by places and not by what is left.
func taken(s string) ([]string, api.Errno) {
	var l []string
	b := []byte(s)
	for at := 0; at < len(b); {
		if at+2 > len(b) {
			return nil, api.ErrShort
		}
		n := int(binary.BigEndian.Uint16(b[at:]))
		if n == 0 || n > 4096 {
			return nil, api.ErrForm
		}
		if at+6+n > len(b) {
			return nil, api.ErrShort
		}
		if binary.BigEndian.Uint32(b[at+2:]) != crc32.ChecksumIEEE(b[at+6:at+6+n]) {
			return nil, api.ErrBad
		}
		l = append(l, s[at+6:at+6+n])
		at += 6 + n
	}
	return l, api.OK
}

// wantAsTaken holds what Take answers against the chapter's, and what it
// accepts against Put.
func wantAsTaken(t *testing.T, s string) {
	t.Helper()
	want, err := taken(s)
	if err != api.OK {
		wantNoTake(t, err, s)
		return
	}
	wantTake(t, s, want...)
	if got := put(t, want...); got != s {
		t.Fatalf("Take accepts %.60x, but Put of its records is %.60x", s, got)
	}
}

// TestTake is of P8.2: strings that are written out.
func TestTake(t *testing.T) {
	wantTake(t, "")
	wantTake(t, "\x00\x01\xe8\xb7\xbe\x43a", "a")
	wantTake(t, "\x00\x03\x35\x24\x41\xc2abc", "abc")
	wantTake(t, "\x00\x01\xe8\xb7\xbe\x43a\x00\x09\xcb\xf4\x39\x26123456789", "a", "123456789")
	wantTake(t, "\x00\x01\xd2\x02\xef\x8d\x00\x00\x01\xd2\x02\xef\x8d\x00", "\x00", "\x00")
	wantNoTake(t, api.ErrShort, "\x00\x01\xe8\xb7\xbe\x43")
	wantNoTake(t, api.ErrShort, "\x00\x01\xe8\xb7\xbe\x43a\x00")
	wantNoTake(t, api.ErrForm, "\x00\x01\xe8\xb7\xbe\x43a\x00\x00")
	wantNoTake(t, api.ErrForm, "\x00\x00\x00\x00\x00\x00")
	wantNoTake(t, api.ErrBad, "\x00\x01\xe8\xb7\xbe\x43b")
	wantNoTake(t, api.ErrBad, "\x00\x01\x43\xbe\xb7\xe8a")
	wantNoTake(t, api.ErrShort, "\x01\x00\xe8\xb7\xbe\x43a")
	wantNoTake(t, api.ErrForm, "abcdefgh")
}

// TestTakeOfFew is of P8.2: each string of one byte, and each of two, alone and
// behind a frame.
func TestTakeOfFew(t *testing.T) {
	a := frameOf("a")
	for n := range 1 << 16 {
		s := string([]byte{byte(n >> 8), byte(n)})
		wantNoTake(t, api.ErrShort, s[:1])
		wantNoTake(t, api.ErrShort, a+s[1:])
		want := api.ErrShort
		if n == 0 || n > 4096 {
			want = api.ErrForm
		}
		wantNoTake(t, want, s)
		wantNoTake(t, want, a+s)
	}
}

// TestTakeOfLength is of P8.2: lengths at and beyond the edges, with bytes
// enough behind them and with too few, each time with the checksum that is
// right for what is there, and with others.
func TestTakeOfLength(t *testing.T) {
	for _, front := range [][]string{nil, {"a"}, {"ab", scattered(4096)}} {
		for _, n := range []int{0, 1, 2, 255, 256, 4095, 4096, 4097, 4098, 8192, 32768, 61440, 65534, 65535} {
			s := framesOf(front...) + frameOf(scattered(n))
			wrong := framesOf(front...) + headed(n, ^crc32.ChecksumIEEE([]byte(scattered(n))), scattered(n))
			if n == 0 || n > 4096 {
				for _, cut := range []int{0, 1, n / 2, n - 1, n, n + 1, n + 3, n + 4} {
					if cut >= 0 {
						wantNoTake(t, api.ErrForm, s[:len(s)-cut])
						wantNoTake(t, api.ErrForm, wrong[:len(s)-cut])
					}
				}
				wantNoTake(t, api.ErrForm, s+frameOf("a"))
				wantNoTake(t, api.ErrForm, wrong+frameOf("a"))
				continue
			}
			wantTake(t, s, append(slices.Clone(front), scattered(n))...)
			wantTake(t, s+frameOf("b"), append(slices.Clone(front), scattered(n), "b")...)
			wantNoTake(t, api.ErrBad, wrong)
			wantNoTake(t, api.ErrBad, wrong+frameOf("b"))
			for _, cut := range []int{1, n / 2, n - 1, n, n + 1, n + 3, n + 4, n + 5} {
				if cut > 0 {
					wantNoTake(t, api.ErrShort, s[:len(s)-cut])
					wantNoTake(t, api.ErrShort, wrong[:len(s)-cut])
				}
			}
		}
	}
}

// TestTakeOfEachLength is of P8.2: each length that a record may have.
func TestTakeOfEachLength(t *testing.T) {
	long := scattered(4097)
	for n := 1; n <= 4096; n++ {
		wantTake(t, frameOf(long[:n]), long[:n])
		wantTake(t, framesOf("a", long[:n], "b"), "a", long[:n], "b")
	}
	wantNoTake(t, api.ErrForm, frameOf(long))
}

// TestTakeOfWrongSum is of P8.2: each bit of a checksum inverted, in the first
// and in later frames, and checksums of something else.
func TestTakeOfWrongSum(t *testing.T) {
	for _, record := range records() {
		right := crc32.ChecksumIEEE([]byte(record))
		wrong := []uint32{0, 1, ^uint32(0), ^right, right + 1, right - 1, right<<8 | right>>24, right<<16 | right>>16}
		wrong = append(wrong, binary.BigEndian.Uint32(binary.LittleEndian.AppendUint32(nil, right)), crc32.ChecksumIEEE([]byte(record+"\x00")))
		wrong = append(wrong, crc32.ChecksumIEEE([]byte(headed(len(record), 0, "")[:2]+record)), crc32.ChecksumIEEE([]byte(record[1:])))
		for bit := range 32 {
			wrong = append(wrong, right^1<<bit)
		}
		for _, sum := range wrong {
			// A checksum may be the same forwards and backwards.
			if sum == right {
				continue
			}
			s := headed(len(record), sum, record)
			wantNoTake(t, api.ErrBad, s)
			wantNoTake(t, api.ErrBad, s+frameOf("a"))
			wantNoTake(t, api.ErrBad, framesOf("a", "bc")+s)
			wantNoTake(t, api.ErrBad, frameOf("a")+s+frameOf("bc"))
			wantNoTake(t, api.ErrShort, s[:len(s)-1])
		}
	}
}

// TestTakeOfChanged is of P8.2 and P8.3: each byte of frames changed to each
// other.
func TestTakeOfChanged(t *testing.T) {
	for _, l := range [][]string{{"a"}, {"\x00"}, {"abc"}, {"a", "b"}, {"\x00\x00", "\xff"}, {scattered(255), "a"}, {scattered(300)}} {
		s := framesOf(l...)
		for at := range s {
			for c := range 256 {
				changed := s[:at] + string([]byte{byte(c)}) + s[at+1:]
				wantAsTaken(t, changed)
				if l, err := frame.Take(changed); changed != s && err == api.OK {
					t.Fatalf("Take accepts %x, with the byte %d changed: %q", changed, at, l)
				}
			}
		}
	}
}

// TestTakeOfPrefixes is of P8.2 and P8.3: each prefix of frames; those that end
// with a frame have its records and those ahead of it.
func TestTakeOfPrefixes(t *testing.T) {
	for _, l := range [][]string{
		{"a"}, {"a", "b"}, {"\x00", "\x00", "\x00"}, {"ab", "c", scattered(300), "d"}, {scattered(256), scattered(255), "a"},
		{zeros(20), zeros(7), "a"}, {scattered(4096), "a"}, slices.Repeat([]string{"ab"}, 60),
	} {
		s := put(t, l...)
		ends := map[int]int{}
		for n := range len(l) + 1 {
			ends[len(framesOf(l[:n]...))] = n
		}
		for end := range len(s) + 1 {
			if n, is := ends[end]; is {
				wantTake(t, s[:end], l[:n]...)
			} else {
				wantNoTake(t, api.ErrShort, s[:end])
			}
		}
	}
}

// faults are strings that are no frames, each with its error.
func faults() map[string]api.Errno {
	return map[string]api.Errno{
		"\x00": api.ErrShort, "\xff": api.ErrShort,
		"\x00\x01": api.ErrShort, "\x10\x00": api.ErrShort,
		frameOf("b")[:5]: api.ErrShort, frameOf("b")[:6]: api.ErrShort, frameOf("bc")[:7]: api.ErrShort,
		headed(2, 0, "b"): api.ErrShort, headed(4096, 0, zeros(4095)): api.ErrShort,
		"\x00\x00": api.ErrForm, "\xff\xff": api.ErrForm, "\x10\x01": api.ErrForm,
		frameOf(""): api.ErrForm, frameOf(zeros(4097)): api.ErrForm, headed(0, 1, ""): api.ErrForm,
		headed(1, 0, "b"): api.ErrBad, headed(4096, 0, zeros(4096)): api.ErrBad,
	}
}

// TestTakeOfFaults is of P8.2: an error of each kind alone and behind right
// frames, and that of the first of several faults.
func TestTakeOfFaults(t *testing.T) {
	for s, err := range faults() {
		wantNoTake(t, err, s)
		for _, l := range [][]string{{"a"}, {"a", "b"}, {scattered(4096)}, {"a", zeros(4096), "b"}, slices.Repeat([]string{"a"}, 100)} {
			wantNoTake(t, err, framesOf(l...)+s)
		}
		if err == api.ErrShort {
			continue
		}
		for behind := range faults() {
			wantNoTake(t, err, s+behind)
			wantNoTake(t, err, frameOf("a")+s+frameOf("b")+behind)
		}
	}
}

// TestTakePut is of P8.3: what Put returned is read again.
func TestTakePut(t *testing.T) {
	for _, l := range append(lists(), full()...) {
		wantTake(t, put(t, l...), l...)
	}
}

// TestTakeOfNoPut is of P8.3: frames with something ahead, between or behind
// that Put does not write.
func TestTakeOfNoPut(t *testing.T) {
	for _, l := range [][]string{{"a"}, {"a", "b"}, {"abc", "\x00", "de"}} {
		for n := range len(l) + 1 {
			for _, s := range []string{"\x00", "a", "\xff", "\x00\x00", "\n", zeros(6), zeros(7), frameOf(""), "\x00\x01a", frameOf("a")[1:], frameOf("a")[2:]} {
				all := framesOf(l[:n]...) + s + framesOf(l[n:]...)
				if got, err := frame.Take(all); len(got) != 0 || err == api.OK {
					t.Errorf("Take accepts %x: %q", all, got)
				}
				wantAsTaken(t, all)
			}
		}
	}
}

// TestTakeOfMixed is of P8.2 and P8.3: frames with bytes changed, left out,
// doubled or put in, held against the chapter's Take.
func TestTakeOfMixed(t *testing.T) {
	x := uint32(1)
	below := func(n int) int {
		x = x*1664525 + 1013904223
		return int(x>>8) % n
	}
	for range 20000 {
		s := ""
		for range below(4) {
			s += frameOf(scattered(1 + below(12)))
		}
		for range below(3) {
			at, size := below(len(s)+1), below(4)
			end := min(at+size, len(s))
			switch below(3) {
			case 0:
				s = s[:at] + scattered(size) + s[end:]
			case 1:
				s = s[:at] + s[end:]
			default:
				s = s[:end] + s[at:]
			}
		}
		wantAsTaken(t, s)
	}
}

// TestTakeOfLong is of P8.2: Take reads all records there are, also if they are
// more than Put joins.
func TestTakeOfLong(t *testing.T) {
	for _, l := range tooLong() {
		s := framesOf(l...)
		wantTake(t, s, l...)
		wantNoTake(t, api.ErrShort, s[:len(s)-1])
		wantNoTake(t, api.ErrForm, s+"\x00\x00")
		wantNoTake(t, api.ErrBad, s+headed(1, 0, "a"))
	}
}

// TestTakeAnew is of LANGUAGE.md: what Take answers is new each time.
func TestTakeAnew(t *testing.T) {
	s := framesOf("a", "b", "c")
	first, _ := frame.Take(s)
	second, _ := frame.Take(s)
	for i := range first {
		first[i] = "changed"
	}
	first = append(first, "more")
	if !slices.Equal(second, []string{"a", "b", "c"}) {
		t.Errorf("a later answer became %q with %q", second, first)
	}
	wantTake(t, s, "a", "b", "c")
}
