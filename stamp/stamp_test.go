package stamp_test

import (
	"encoding/binary"
	"hash/crc32"
	"math"
	"slices"
	"strings"
	"testing"

	"drayman/api"
	"drayman/stamp"
)

// scattered is n bytes without a short rule.
func scattered(n int) string {
	b := make([]byte, n)
	x := uint32(n) + 1
	for i := range b {
		x = x*1664525 + 1013904223
		b[i] = byte(x >> 13)
	}
	return string(b)
}

// zeros is n bytes 0.
func zeros(n int) string { return strings.Repeat("\x00", n) }

// stamps are fit ones, those at the edges among them.
func stamps() []api.Stamp {
	var l []api.Stamp
	for _, num := range []int{1, 2, 255, 256, 65535, 65536, 0x0102030405, 0x410671db01, api.Most - 1, api.Most} {
		for _, count := range []int{1, 2, 255, 256, 257, 511, 512} {
			for _, index := range []int{0, 1, 254, 255, 256, count - 2, count - 1} {
				if x := (api.Stamp{Num: num, Index: index, Count: count}); index >= 0 && index < count && !slices.Contains(l, x) {
					l = append(l, x)
				}
			}
		}
	}
	return l
}

// unfit are stamps of which one number, or several, are out of their range.
func unfit() []api.Stamp {
	l := []api.Stamp{{}}
	for _, num := range []int{math.MinInt, -api.Most, -1, 0, api.Most + 1, 1<<48 - 1, 1 << 48, 1<<48 + 1, math.MaxInt} {
		l = append(l, api.Stamp{Num: num, Index: 0, Count: 1}, api.Stamp{Num: num, Index: 3, Count: 512})
	}
	for _, count := range []int{math.MinInt, -512, -1, 0, 513, 65535, 65536, 65537, math.MaxInt} {
		l = append(l, api.Stamp{Num: 1, Index: 0, Count: count}, api.Stamp{Num: 9, Index: 1, Count: count})
	}
	for _, count := range []int{1, 2, 256, 512} {
		for _, index := range []int{math.MinInt, -65536, -count, -1, count, count + 1, 513, 65535, 65536, 65537, math.MaxInt} {
			l = append(l, api.Stamp{Num: 1, Index: index, Count: count})
		}
	}
	return append(l, api.Stamp{Num: 1, Index: -2, Count: -1}, api.Stamp{Num: 0, Index: 1, Count: 1}, api.Stamp{Num: -1, Index: -1, Count: -1})
}

// texts are data that have room in a sector.
func texts() []string {
	return []string{
		"", "a", "ab", "ba", "\x00", "\x00\x00", "a\x00", "\x00a", "\xff", "äöü", "\xc3",
		strings.Repeat("\xff", 104), zeros(103), zeros(104), zeros(103) + "a", "a" + zeros(103),
		scattered(16), scattered(52), scattered(102), scattered(103), scattered(104),
	}
}

// parts are what a sector is made of, all apart, so that each can be wrong.
type parts struct {
	num, index, count, length int
	data, pad, last           string
}

// partsOf are the parts of a sealed sector.
func partsOf(x api.Stamp, s string) parts {
	return parts{x.Num, x.Index, x.Count, len(s), s, zeros(104 - len(s)), wantMark(x.Num, x.Index)}
}

// wantMark is the chapter's mark.
func wantMark(num, index int) string {
	b := binary.BigEndian.AppendUint64(nil, uint64(num))[2:]
	return string(binary.BigEndian.AppendUint16(b, uint16(index)))
}

// sector joins the parts, whatever they are, with the checksum that is right
// for them.
func (p parts) sector() string {
	b := binary.BigEndian.AppendUint16([]byte(wantMark(p.num, p.index)), uint16(p.count))
	b = binary.BigEndian.AppendUint16(b, uint16(p.length))
	sum := crc32.ChecksumIEEE(append(slices.Clone(b), p.data...))
	return string(binary.BigEndian.AppendUint32(b, sum)) + p.data + p.pad + p.last
}

// sealed seals, and must get OK.
func sealed(t *testing.T, x api.Stamp, s string) string {
	t.Helper()
	a, err := stamp.Seal(x, s)
	if err != api.OK {
		t.Fatalf("Seal(%v, %q) has the error %d", x, s, err)
	}
	return a
}

// wantOpen holds what Open answers against a stamp and data.
func wantOpen(t *testing.T, sector string, x api.Stamp, s string) {
	t.Helper()
	if y, got, err := stamp.Open(sector); y != x || got != s || err != api.OK {
		t.Fatalf("Open(%x) is %v, %q, %d; want %v, %q", sector, y, got, err, x, s)
	}
}

// wantBad holds what Open answers against ErrBad, and nothing beside it.
func wantBad(t *testing.T, what, sector string) {
	t.Helper()
	if y, got, err := stamp.Open(sector); y != (api.Stamp{}) || got != "" || err != api.ErrBad {
		t.Fatalf("%s: Open(%x) is %v, %q, %d; want ErrBad", what, sector, y, got, err)
	}
}

// TestFit is of P6.1.
func TestFit(t *testing.T) {
	for _, x := range stamps() {
		if !stamp.Fit(x) {
			t.Errorf("Fit(%v) is false", x)
		}
	}
	for _, x := range unfit() {
		if stamp.Fit(x) {
			t.Errorf("Fit(%v) is true", x)
		}
	}
}

// TestFitOfAny is of P6.1: each Index of each Count, and those around them.
func TestFitOfAny(t *testing.T) {
	for count := -3; count <= 520; count++ {
		for index := -3; index <= 520; index++ {
			for _, num := range []int{-1, 0, 1, api.Most, api.Most + 1} {
				x := api.Stamp{Num: num, Index: index, Count: count}
				is := (num == 1 || num == 1<<40) && 0 < count && count < 513 && -1 < index && index < count
				if stamp.Fit(x) != is {
					t.Fatalf("Fit(%v) is %t", x, !is)
				}
			}
		}
	}
}

// TestSeal is of P6.1: sectors that are written out.
func TestSeal(t *testing.T) {
	full := strings.Repeat("a", 104)
	for _, c := range []struct {
		x    api.Stamp
		s    string
		want string
	}{
		{
			api.Stamp{Num: 1, Index: 0, Count: 1}, "ab",
			"\x00\x00\x00\x00\x00\x01\x00\x00" + "\x00\x01" + "\x00\x02" + "\x27\x7e\xca\xc8" +
				"ab" + zeros(102) + "\x00\x00\x00\x00\x00\x01\x00\x00",
		}, {
			api.Stamp{Num: 1 << 40, Index: 511, Count: 512}, "",
			"\x01\x00\x00\x00\x00\x00\x01\xff" + "\x02\x00" + "\x00\x00" + "\x4b\x41\x56\xa2" +
				zeros(104) + "\x01\x00\x00\x00\x00\x00\x01\xff",
		}, {
			api.Stamp{Num: 0x0203040506, Index: 258, Count: 259}, full,
			"\x00\x02\x03\x04\x05\x06\x01\x02" + "\x01\x03" + "\x00\x68" + "\x9d\x94\x0f\xdf" +
				full + "\x00\x02\x03\x04\x05\x06\x01\x02",
		},
	} {
		if got := sealed(t, c.x, c.s); got != c.want {
			t.Errorf("Seal(%v, %q) is %x, want %x", c.x, c.s, got, c.want)
		}
	}
}

// TestSealOfAny is of P6.1: any fit stamp, with any data of at most Room bytes.
func TestSealOfAny(t *testing.T) {
	for _, x := range stamps() {
		for _, s := range texts() {
			if got, want := sealed(t, x, s), partsOf(x, s).sector(); got != want || len(got) != 128 {
				t.Errorf("Seal(%v, %q) is %x, want %x", x, s, got, want)
			}
		}
	}
	for n := range 105 {
		x := api.Stamp{Num: 7, Index: 1, Count: 3}
		if got, want := sealed(t, x, scattered(n)), partsOf(x, scattered(n)).sector(); got != want {
			t.Errorf("Seal(%v, %d bytes) is %x, want %x", x, n, got, want)
		}
	}
}

// TestSealOfWrong is of P6.1: a stamp that is not fit comes before data that
// are too long.
func TestSealOfWrong(t *testing.T) {
	long := []string{scattered(105), zeros(105), scattered(106), scattered(128), scattered(208), scattered(65536), scattered(65536 + 104), strings.Repeat("ä", 53)}
	check := func(x api.Stamp, s string, want api.Errno) {
		t.Helper()
		if got, err := stamp.Seal(x, s); got != "" || err != want {
			t.Errorf("Seal(%v, %d bytes) is %x, %d; want %d", x, len(s), got, err, want)
		}
	}
	for _, x := range unfit() {
		for _, s := range append(texts(), long...) {
			check(x, s, api.ErrArg)
		}
	}
	for _, x := range stamps() {
		for _, s := range long {
			check(x, s, api.ErrLong)
		}
	}
}

// TestOpen is of P6.1: sectors that Seal had no part in.
func TestOpen(t *testing.T) {
	wantOpen(t, "\x00\x00\x00\x00\x00\x01\x00\x00\x00\x01\x00\x02\x27\x7e\xca\xc8ab"+zeros(107)+"\x01\x00\x00", api.Stamp{Num: 1, Count: 1}, "ab")
	for _, x := range stamps() {
		for _, s := range texts() {
			wantOpen(t, partsOf(x, s).sector(), x, s)
		}
	}
}

// TestOpenSealed is of P6.2: what was sealed, of each length, with each stamp.
func TestOpenSealed(t *testing.T) {
	for _, x := range stamps() {
		for _, s := range texts() {
			wantOpen(t, sealed(t, x, s), x, s)
		}
	}
	for n := range 105 {
		for count := 1; count <= 512; count += 73 {
			for index := range count {
				x := api.Stamp{Num: 1 + n*index, Index: index, Count: count}
				wantOpen(t, sealed(t, x, scattered(n)), x, scattered(n))
			}
		}
	}
}

// TestOpenOfOtherLength is of P6.1: a sector has 128 bytes.
func TestOpenOfOtherLength(t *testing.T) {
	for _, x := range stamps() {
		for _, s := range []string{"", "ab", scattered(104)} {
			a := sealed(t, x, s)
			for _, n := range []int{0, 1, 8, 16, 104, 120, 126, 127} {
				wantBad(t, "the beginning", a[:n])
				wantBad(t, "the end", a[128-n:])
			}
			for _, more := range []string{"\x00", "a", a[:8], a} {
				wantBad(t, "more behind it", a+more)
				wantBad(t, "more before it", more+a)
			}
			wantBad(t, "one byte less within", a[:119]+a[120:])
			wantBad(t, "one byte more within", a[:120]+"\x00"+a[120:])
		}
	}
	for n := range 300 {
		wantBad(t, "bytes 0", zeros(n))
		wantBad(t, "other bytes", scattered(n))
	}
}

// TestOpenOfChanged is of P6.1: any one byte changed to any other, also behind
// the data and in the last mark.
func TestOpenOfChanged(t *testing.T) {
	for _, x := range []api.Stamp{
		{Num: 1, Index: 0, Count: 1}, {Num: 1, Index: 1, Count: 2}, {Num: 0x410671db01, Index: 258, Count: 512}, {Num: api.Most, Index: 511, Count: 512},
	} {
		for _, s := range []string{"", "ab", "ab\x00", scattered(103), scattered(104), zeros(104)} {
			a := []byte(sealed(t, x, s))
			for i := range a {
				for by := 1; by < 256; by++ {
					a[i] ^= byte(by)
					wantBad(t, "one byte changed", string(a))
					a[i] ^= byte(by)
				}
			}
			wantOpen(t, string(a), x, s)
		}
	}
}

// TestOpenOfUnfit is of P6.1: no sector is sealed with such a stamp, though
// all else, the checksum too, is right for it.
func TestOpenOfUnfit(t *testing.T) {
	for _, s := range texts() {
		for _, num := range []int{0, api.Most + 1, 1 << 47, 1<<48 - 1} {
			wantBad(t, "Num", partsOf(api.Stamp{Num: num, Index: 0, Count: 1}, s).sector())
			wantBad(t, "Num", partsOf(api.Stamp{Num: num, Index: 2, Count: 3}, s).sector())
		}
		for _, count := range []int{0, 513, 514, 32768, 65535} {
			wantBad(t, "Count", partsOf(api.Stamp{Num: 1, Index: 0, Count: count}, s).sector())
		}
		for _, count := range []int{1, 2, 256, 512} {
			for _, index := range []int{count, count + 1, 512, 32768, 65535} {
				wantBad(t, "Index", partsOf(api.Stamp{Num: 1, Index: index, Count: count}, s).sector())
			}
		}
	}
	wantBad(t, "a stamp of zeros", partsOf(api.Stamp{}, "").sector())
}

// TestOpenOfOtherParts is of P6.1: sectors of which one part is not as it must
// be, with the checksum that is right for the others.
func TestOpenOfOtherParts(t *testing.T) {
	x := api.Stamp{Num: 0x0102030405, Index: 258, Count: 300}
	long := partsOf(x, scattered(104))
	// The checksum of more data than there is room for, up to the end and beyond.
	for _, n := range []int{105, 106, 111, 112, 113, 256, 65535} {
		p := long
		p.length = n
		wantBad(t, "a length above Room", p.sector())
		p.data = (long.data + long.last + zeros(n))[:n]
		p.last = long.last[min(n-104, 8):]
		wantBad(t, "a length above Room, with the data", p.sector()[:128])
		p.length = 104
		wantBad(t, "more data than the length says", p.sector()[:128])
	}
	for n := range 104 {
		p := partsOf(x, scattered(n))
		for i := range p.pad {
			q := p
			q.pad = p.pad[:i] + "\x01" + p.pad[i+1:]
			wantBad(t, "a byte behind the data", q.sector())
		}
	}
	for _, last := range []string{
		zeros(8), wantMark(x.Num, x.Index+1), wantMark(x.Num, 0), wantMark(x.Num+1, x.Index), wantMark(0, x.Index),
		"\x05\x04\x03\x02\x01\x00\x01\x02", "\x01\x02\x00\x01\x02\x03\x04\x05",
	} {
		for _, s := range texts() {
			p := partsOf(x, s)
			p.last = last
			wantBad(t, "another mark at the end", p.sector())
		}
	}
}

// TestOpenOfOtherSum is of P6.1: checksums of other bytes, and in another order.
func TestOpenOfOtherSum(t *testing.T) {
	for _, x := range stamps() {
		for _, s := range []string{"", "ab", scattered(104)} {
			a := sealed(t, x, s)
			for _, sum := range []uint32{
				0, math.MaxUint32, crc32.ChecksumIEEE([]byte(s)), crc32.ChecksumIEEE([]byte(a[:12])),
				crc32.ChecksumIEEE([]byte(s + a[:12])), crc32.ChecksumIEEE([]byte(a[:8] + s)),
				crc32.ChecksumIEEE([]byte(a[:12] + a[16:])), crc32.ChecksumIEEE([]byte(a)),
				binary.LittleEndian.Uint32([]byte(a[12:16])), ^binary.BigEndian.Uint32([]byte(a[12:16])),
			} {
				b := a[:12] + string(binary.BigEndian.AppendUint32(nil, sum)) + a[16:]
				if b != a {
					wantBad(t, "another checksum", b)
				}
			}
		}
	}
}

// TestOpenOfMarksWithZeros is of P6.1: any bytes of the first mark, and any of
// the last, are 0.
func TestOpenOfMarksWithZeros(t *testing.T) {
	for _, x := range []api.Stamp{
		{Num: 1, Index: 0, Count: 1}, {Num: 0x410671db01, Index: 0, Count: 1}, {Num: 0x410671db01, Index: 258, Count: 512},
	} {
		for _, s := range []string{"", "ab", scattered(104)} {
			a := sealed(t, x, s)
			for first := range 256 {
				for last := range 256 {
					b := zeroed(a[:8], first) + a[8:120] + zeroed(a[120:], last)
					if b == a {
						wantOpen(t, b, x, s)
					} else {
						wantBad(t, "marks with bytes 0", b)
					}
				}
			}
		}
	}
}

// zeroed is s with a byte 0 at each place whose bit is set.
func zeroed(s string, places int) string {
	b := []byte(s)
	for i := range b {
		if places>>i&1 == 1 {
			b[i] = 0
		}
	}
	return string(b)
}

// TestBlank is of P6.1.
func TestBlank(t *testing.T) {
	for n := range 1000 {
		if got := stamp.Blank(zeros(n)); got != (n == 128) {
			t.Errorf("Blank of %d bytes 0 is %t", n, got)
		}
	}
	for i := range 128 {
		for b := 1; b < 256; b++ {
			s := zeros(i) + string([]byte{byte(b)}) + zeros(127-i)
			if stamp.Blank(s) {
				t.Errorf("Blank is true with the byte %d at %d", b, i)
			}
		}
	}
	for _, s := range []string{strings.Repeat("0", 128), strings.Repeat(" ", 128), strings.Repeat("\xff", 128), zeros(128) + "a", "a" + zeros(128), strings.Repeat("\u0100", 64)} {
		if stamp.Blank(s) {
			t.Errorf("Blank(%x) is true", s)
		}
	}
	for _, x := range stamps() {
		if stamp.Blank(sealed(t, x, "")) {
			t.Errorf("a sector sealed with %v is blank", x)
		}
	}
	wantBad(t, "a blank sector", zeros(128))
}

// TestSplit is of P6.1: answers that are written out.
func TestSplit(t *testing.T) {
	s := scattered(313)
	for _, c := range []struct {
		s    string
		want []string
	}{
		{"", []string{""}},
		{"a", []string{"a"}},
		{"\x00", []string{"\x00"}},
		{s[:103], []string{s[:103]}},
		{s[:104], []string{s[:104]}},
		{s[:105], []string{s[:104], s[104:105]}},
		{s[:207], []string{s[:104], s[104:207]}},
		{s[:208], []string{s[:104], s[104:208]}},
		{s[:209], []string{s[:104], s[104:208], s[208:209]}},
		{s[:312], []string{s[:104], s[104:208], s[208:312]}},
		{s, []string{s[:104], s[104:208], s[208:312], s[312:]}},
		// Bytes count, not runes.
		{"a" + strings.Repeat("ä", 52), []string{"a" + strings.Repeat("ä", 51) + "\xc3", "\xa4"}},
		{zeros(208), []string{zeros(104), zeros(104)}},
	} {
		if got := stamp.Split(c.s); !slices.Equal(got, c.want) {
			t.Errorf("Split of %d bytes is %q, want %q", len(c.s), got, c.want)
		}
	}
}

// TestSplitOfAny is of P6.1: the parts are s, in order, all of Room bytes but
// the last; and each has room in a sector.
func TestSplitOfAny(t *testing.T) {
	for n := range 2000 {
		s := scattered(n)
		l := stamp.Split(s)
		if strings.Join(l, "") != s || len(l) != max(1, (n+103)/104) {
			t.Fatalf("Split of %d bytes is %q", n, l)
		}
		for i, part := range l {
			if i < len(l)-1 && len(part) != 104 {
				t.Fatalf("Split of %d bytes has the part %d of %d bytes", n, i, len(part))
			}
			x := api.Stamp{Num: n + 1, Index: i, Count: len(l)}
			wantOpen(t, sealed(t, x, part), x, part)
		}
	}
	if l := stamp.Split(strings.Repeat("a", 1<<24)); len(l) != (1<<24+103)/104 || len(l[len(l)-1]) != 1<<24%104 {
		t.Errorf("Split of %d bytes has %d parts", 1<<24, len(l))
	}
}

// TestSplitAnew is of rule 7: an answer shares nothing with another.
func TestSplitAnew(t *testing.T) {
	for _, n := range []int{0, 104, 208} {
		l, other := stamp.Split(scattered(n)), stamp.Split(scattered(n))
		l[0] = "changed"
		l = append(l, "more")
		if strings.Join(other, "") != scattered(n) || l[0] == other[0] {
			t.Errorf("Split of %d bytes became %q", n, other)
		}
	}
}
