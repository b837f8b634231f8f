package crc_test

import (
	"encoding/binary"
	"hash/crc32"
	"math/bits"
	"slices"
	"strings"
	"testing"

	"drayman/api"
	"drayman/crc"
)

// sums are checksums to begin with: none, all and single bits, what a step
// XORs with, and ordinary ones.
func sums() []uint32 {
	l := []uint32{
		0, 0xffffffff, 0xedb88320, ^uint32(0xedb88320), 0x04c11db7, 0xdebb20e3,
		0xcbf43926, 0x01020304, 0x80000001, 0x00ff00ff, 0x12345678, 258,
	}
	for shift := range 32 {
		l = append(l, 1<<shift, ^uint32(1<<shift))
	}
	return l
}

// texts are strings of many lengths and of all bytes.
func texts() []string {
	l := []string{
		"", "a", "ab", "abc", "abcd", "abcde", "123456789", "\x00", "\x00\x00\x00\x00",
		"\xff", "\xff\xff\xff\xff", "\xff\xff\xff\xff\xff", "\x80", "\x7f", "ä", "äöü", "\xc3", "\ufffd",
		"The quick brown fox jumps over the lazy dog", strings.Repeat("\x00", 104),
		strings.Repeat("\xff", 128), strings.Repeat("drayman ", 100), allBytes(),
		allBytes() + allBytes()[1:], strings.Repeat(allBytes(), 20),
	}
	for n := range 40 {
		l = append(l, scattered(n))
	}
	return l
}

// allBytes is each byte there is.
func allBytes() string {
	b := make([]byte, 256)
	for i := range b {
		b[i] = byte(i)
	}
	return string(b)
}

// scattered is n bytes without a short rule.
func scattered(n int) string {
	b := make([]byte, n)
	x := uint32(n) + 1
	for i := range b {
		x = next(x)
		b[i] = byte(x >> 11)
	}
	return string(b)
}

// next is the number behind x in a sequence that looks scattered.
func next(x uint32) uint32 { return x*1664525 + 1013904223 }

// wantMore is the chapter's definition, bit by bit: each bit of the string, the
// lowest of a byte first, meets the lowest bit of the number.
func wantMore(sum uint32, s string) uint32 {
	var n [32]bool
	for i := range n {
		n[i] = sum>>i&1 == 0
	}
	for bit := range 8 * len(s) {
		out := n[0] != (s[bit/8]>>(bit%8)&1 == 1)
		copy(n[:], n[1:])
		n[31] = false
		for i := range n {
			if out && uint32(0xedb88320)>>i&1 == 1 {
				n[i] = !n[i]
			}
		}
	}
	got := uint32(0)
	for i := range n {
		if !n[i] {
			got |= 1 << i
		}
	}
	return got
}

// checkMore holds one answer of More against what is wanted.
func checkMore(t *testing.T, sum uint32, s string, want uint32) {
	t.Helper()
	if got := crc.More(sum, s); got != want {
		t.Errorf("More(%08x, %.40q) is %08x, want %08x", sum, s, got, want)
	}
}

// TestMore is of P4.1: answers that are written out.
func TestMore(t *testing.T) {
	for _, c := range []struct {
		sum  uint32
		s    string
		want uint32
	}{
		{0, "123456789", 0xcbf43926},
		{0, "\x00", 0xd202ef8d},
		{0xffffffff, "\x00", 0xffffffff},
		{0xffffffff, "\x01", 0x88f8cf69},
		{0xffffffff, "\x80", ^uint32(0xedb88320)},
		{0xfffffffe, "\x00", 0x88f8cf69},
		{0xffffff7f, "\x00", ^uint32(0xedb88320)},
		{0xfffffeff, "\x00", 0xfffffffe},
		{0xffffff80, "\x7f", 0xffffffff},
		{0xcbf43926, "", 0xcbf43926},
	} {
		checkMore(t, c.sum, c.s, c.want)
	}
}

// TestMoreOfNothing is of P4.1: the empty string leaves any sum as it is.
func TestMoreOfNothing(t *testing.T) {
	for _, sum := range sums() {
		checkMore(t, sum, "", sum)
	}
}

// TestMoreOfEachByte is of P4.1: each byte, behind any sum.
func TestMoreOfEachByte(t *testing.T) {
	for _, sum := range sums() {
		for b := range 256 {
			s := string([]byte{byte(b)})
			checkMore(t, sum, s, wantMore(sum, s))
		}
	}
}

// TestMoreOfAny is of P4.1: any string, behind any sum.
func TestMoreOfAny(t *testing.T) {
	for _, s := range texts() {
		for _, sum := range sums() {
			checkMore(t, sum, s, crc32.Update(sum, crc32.IEEETable, []byte(s)))
		}
		checkMore(t, 0x12345678, s, wantMore(0x12345678, s))
	}
}

// TestMoreInOrder is of P4.1: the bytes are added in their order.
func TestMoreInOrder(t *testing.T) {
	for _, c := range [][2]string{{"ab", "ba"}, {"\x00\x01", "\x01\x00"}, {"a\x00", "\x00a"}, {"abc", "cba"}} {
		for _, sum := range sums() {
			if crc.More(sum, c[0]) == crc.More(sum, c[1]) {
				t.Errorf("More(%08x, s) is the same for %q and %q", sum, c[0], c[1])
			}
		}
	}
}

// TestSum is of P4.1.
func TestSum(t *testing.T) {
	for _, c := range []struct {
		s    string
		want uint32
	}{
		{"", 0}, {"123456789", 0xcbf43926}, {"a", 0xe8b7be43}, {"abc", 0x352441c2},
		{"\x00", 0xd202ef8d}, {"\x00\x00\x00\x00", 0x2144df1c}, {"\xff\xff\xff\xff", 0xffffffff},
		{"\xff", 0xff000000}, {strings.Repeat("\x00", 32), 0x190a55ad}, {strings.Repeat("\xff", 32), 0xff6cab0b},
		{"The quick brown fox jumps over the lazy dog", 0x414fa339},
	} {
		if got := crc.Sum(c.s); got != c.want {
			t.Errorf("Sum(%q) is %08x, want %08x", c.s, got, c.want)
		}
	}
	for _, s := range texts() {
		if got, want := crc.Sum(s), crc32.ChecksumIEEE([]byte(s)); got != want {
			t.Errorf("Sum(%.40q) is %08x, want %08x", s, got, want)
		}
		if got, want := crc.Sum(s), crc.More(0, s); got != want {
			t.Errorf("Sum(%.40q) is %08x, but More(0, s) is %08x", s, got, want)
		}
	}
}

// TestSumOfMany is of P4.1: a long string.
func TestSumOfMany(t *testing.T) {
	s := strings.Repeat(scattered(1<<10), 1<<12)
	if got, want := crc.Sum(s), crc32.ChecksumIEEE([]byte(s)); got != want {
		t.Errorf("Sum of %d bytes is %08x, want %08x", len(s), got, want)
	}
}

// TestOctets is of P4.1.
func TestOctets(t *testing.T) {
	for _, c := range []struct {
		sum  uint32
		want string
	}{
		{0, "\x00\x00\x00\x00"}, {1, "\x00\x00\x00\x01"}, {255, "\x00\x00\x00\xff"},
		{256, "\x00\x00\x01\x00"}, {258, "\x00\x00\x01\x02"}, {0x10000, "\x00\x01\x00\x00"},
		{0x1000000, "\x01\x00\x00\x00"}, {0x01020304, "\x01\x02\x03\x04"},
		{0x80000000, "\x80\x00\x00\x00"}, {0xcbf43926, "\xcb\xf4\x39\x26"},
		{0xfffffffe, "\xff\xff\xff\xfe"}, {0xffffffff, "\xff\xff\xff\xff"},
	} {
		if got := crc.Octets(c.sum); got != c.want {
			t.Errorf("Octets(%08x) is %x, want %x", c.sum, got, c.want)
		}
	}
	for _, sum := range manySums() {
		if got, want := crc.Octets(sum), string(binary.BigEndian.AppendUint32(nil, sum)); got != want {
			t.Errorf("Octets(%08x) is %x, want %x", sum, got, want)
		}
	}
}

// manySums are all of one byte at each place, and some thousands beside.
func manySums() []uint32 {
	l := sums()
	for b := range uint32(256) {
		l = append(l, b, b<<8, b<<16, b<<24)
	}
	x := uint32(1)
	for range 5000 {
		x = next(x)
		l = append(l, x)
	}
	return l
}

// checkRead holds one answer of Read against what is wanted.
func checkRead(t *testing.T, s string, want uint32, wantErr api.Errno) {
	t.Helper()
	if got, err := crc.Read(s); got != want || err != wantErr {
		t.Errorf("Read(%.40q) is %08x, %d; want %08x, %d", s, got, err, want, wantErr)
	}
}

// TestRead is of P4.1: strings of four bytes, whatever they are.
func TestRead(t *testing.T) {
	for _, c := range []struct {
		s    string
		want uint32
	}{
		{"\x00\x00\x01\x02", 258}, {"\x00\x00\x00\x00", 0}, {"\x00\x00\x00\x01", 1},
		{"\x01\x00\x00\x00", 0x1000000}, {"\x01\x02\x03\x04", 0x01020304}, {"\x80\x00\x00\x00", 0x80000000},
		{"\xff\xff\xff\xff", 0xffffffff}, {"\xcb\xf4\x39\x26", 0xcbf43926},
		{"abcd", 0x61626364}, {"1234", 0x31323334}, {"ää", 0xc3a4c3a4}, {"\U0010ffff", 0xf48fbfbf},
		{"\xff\xfe\x80\xc3", 0xfffe80c3},
	} {
		checkRead(t, c.s, c.want, api.OK)
	}
}

// TestReadOfOtherLength is of P4.1: bytes count, not runes.
func TestReadOfOtherLength(t *testing.T) {
	for _, s := range []string{
		"", "a", "ab", "abc", "\x00", "\x00\x00\x00", "\xff\xff\xff", "ä", "aä", "€", "\ufffd",
	} {
		checkRead(t, s, 0, api.ErrShort)
	}
	for _, s := range []string{
		"abcde", "123456789", "\x00\x00\x00\x00\x00", "\x00\x00\x00\x01\x00", "\x00\x00\x00\x00\x01",
		"\xff\xff\xff\xff\xff", "cbf43926", "äö\x00", "äöü", "äöüß", "\U0010ffff\x00",
		"abcdabcd", strings.Repeat("a", 256), strings.Repeat("\x00", 1<<16+4),
	} {
		checkRead(t, s, 0, api.ErrLong)
	}
	for n := range 300 {
		switch s := scattered(n); {
		case n < 4:
			checkRead(t, s, 0, api.ErrShort)
		case n > 4:
			checkRead(t, s, 0, api.ErrLong)
		default:
			checkRead(t, s, binary.BigEndian.Uint32([]byte(s)), api.OK)
		}
	}
}

// TestReadOctets is of P4.1: what Octets returned is read again, and nothing
// shorter or longer is.
func TestReadOctets(t *testing.T) {
	for _, sum := range manySums() {
		s := crc.Octets(sum)
		checkRead(t, s, sum, api.OK)
		checkRead(t, s[:3], 0, api.ErrShort)
		checkRead(t, s[1:], 0, api.ErrShort)
		checkRead(t, s+"\x00", 0, api.ErrLong)
		checkRead(t, "\x00"+s, 0, api.ErrLong)
	}
}

// TestDivided is of P4.2: in two and in three parts, divided anywhere.
func TestDivided(t *testing.T) {
	for _, s := range []string{"", "a", "ab", "123456789", "\x00\x00\x00", "äöü", scattered(30), allBytes()[230:]} {
		for _, sum := range []uint32{0, 1, 0xffffffff, 0xedb88320, 0x12345678} {
			want := crc.More(sum, s)
			for i := range len(s) + 1 {
				checkMore(t, crc.More(sum, s[:i]), s[i:], want)
				for j := i; j <= len(s); j++ {
					checkMore(t, crc.More(crc.More(sum, s[:i]), s[i:j]), s[j:], want)
				}
			}
		}
	}
}

// TestDividedInMany is of P4.2: in parts of one length each, with empty parts
// between.
func TestDividedInMany(t *testing.T) {
	for _, s := range texts() {
		for _, size := range []int{1, 2, 3, 4, 7, 8, 64, 128} {
			got, rest := uint32(0), s
			for rest != "" {
				part := rest[:min(size, len(rest))]
				got, rest = crc.More(crc.More(got, part), ""), rest[len(part):]
			}
			if want := crc.Sum(s); got != want {
				t.Errorf("%.40q in parts of %d bytes is %08x, and whole %08x", s, size, got, want)
			}
		}
	}
}

// inverted is s with some bits inverted: those of a pattern, whose lowest bit
// is at the place from, of the bits of s. It is false if s ends before that.
func inverted(s string, from int, pattern uint64) (string, bool) {
	if from+bits.Len64(pattern) > 8*len(s) {
		return "", false
	}
	b := []byte(s)
	for i := range bits.Len64(pattern) {
		if pattern>>i&1 == 1 {
			b[(from+i)/8] ^= 1 << ((from + i) % 8)
		}
	}
	return string(b), true
}

// patterns are bits to invert: each of up to 12 bits, single bits and pairs,
// runs, what a step XORs with, however it is shifted, and scattered ones.
func patterns() []uint32 {
	var l []uint32
	for p := range uint32(1 << 12) {
		l = append(l, p+1)
	}
	for i := range 32 {
		for j := range i {
			l = append(l, 1<<i|1<<j, 1<<i-1<<j, ^uint32(1<<i|1<<j))
		}
		l = append(l, 1<<i, ^uint32(0)<<i, ^uint32(1<<i), 0xedb88320>>i, 0xedb88320<<i, 0x04c11db7<<i)
	}
	l = append(l, manySums()...)
	// No bits inverted is no pattern, and shifts may leave none.
	return slices.DeleteFunc(l, func(p uint32) bool { return p == 0 })
}

// TestInverted is of P4.3: at each place of a string, within 32 bits.
func TestInverted(t *testing.T) {
	for _, s := range []string{"a", "ab", "abc", "\x00\x00\x00\x00", "\xff\xff\xff\xff\xff", "123456789", scattered(13)} {
		want, some := crc.Sum(s), 0
		for _, p := range patterns() {
			for from := range 8 * len(s) {
				other, is := inverted(s, from, uint64(p))
				if !is {
					break
				}
				some++
				if got := crc.Sum(other); got == want {
					t.Fatalf("Sum is %08x for %q and for %q", got, s, other)
				}
			}
		}
		if some == 0 {
			t.Errorf("no bits of %q were inverted", s)
		}
	}
}

// TestInvertedInLong is of P4.3: in a sector's bytes and in more, with any sum
// to begin with.
func TestInvertedInLong(t *testing.T) {
	for _, s := range []string{scattered(128), strings.Repeat("\x00", 104), scattered(1 << 12)} {
		for _, sum := range []uint32{0, 0xffffffff, 0x12345678} {
			want := crc.More(sum, s)
			for _, p := range []uint32{1, 3, 1 << 31, 1<<31 | 1, 0xffffffff, 0xedb88320, 0xdb710641} {
				for from := 0; from < 8*len(s); from += 1 + len(s)/64 {
					other, is := inverted(s, from, uint64(p))
					if is && crc.More(sum, other) == want {
						t.Fatalf("More(%08x, s) is the same with the bits %08x from %d on inverted", sum, p, from)
					}
				}
			}
		}
	}
}

// TestInvertedFurther is of P4.1: among 33 bits there are those that leave the
// checksum as it is, so that P4.3 ends where the chapter says. The lowest bit
// of a byte is the first one.
func TestInvertedFurther(t *testing.T) {
	const leaves = 0xedb88320<<1 | 1
	for _, s := range []string{"abcde", "123456789", "\x00\x00\x00\x00\x00\x00", scattered(40)} {
		for from := range 8*len(s) - 32 {
			other, is := inverted(s, from, leaves)
			if !is || other == s {
				t.Fatalf("no bits of %q from %d on were inverted", s, from)
			}
			if got, want := crc.Sum(other), crc.Sum(s); got != want {
				t.Errorf("Sum is %08x for %q, but %08x for %q", want, s, got, other)
			}
		}
	}
}
