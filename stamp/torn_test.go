package stamp_test

import (
	"hash/crc32"
	"strings"
	"testing"

	"drayman/api"
	"drayman/disk"
	"drayman/stamp"
)

// sameSum are bytes that leave a checksum as so many bytes 0 would: cut off,
// or with bytes 0 in their place, they are not missed by a checksum.
const sameSum = "\x41\x06\x71\xdb\x01"

// sameSumNum is a Num whose bytes, behind a byte 0, are sameSum.
const sameSumNum = 0x410671db01

// torn is a sector after a write to it of which only n bytes were performed.
func torn(fresh string, n int, old string) string { return fresh[:n] + old[n:] }

// tornStamps are stamps whose marks end in bytes 0 or do not, begin in one or
// not, and have them within.
func tornStamps() []api.Stamp {
	return []api.Stamp{
		{Num: 1, Index: 0, Count: 1}, {Num: 1, Index: 1, Count: 2}, {Num: 256, Index: 256, Count: 257},
		{Num: sameSumNum, Index: 0, Count: 1}, {Num: sameSumNum, Index: 511, Count: 512},
		{Num: api.Most, Index: 0, Count: 512}, {Num: api.Most, Index: 1, Count: 512}, {Num: 0x0102030405, Index: 258, Count: 300},
	}
}

// tornTexts are data that end in bytes 0 or do not, and such that a checksum
// does not tell whether their end was lost.
func tornTexts() []string {
	return []string{
		"", "ab", "ab" + zeros(20), zeros(104), scattered(52), scattered(103), scattered(104),
		sameSum, scattered(60) + sameSum, scattered(98) + sameSum, scattered(99) + sameSum, scattered(98) + sameSum + "\x00",
	}
}

// opens reports whether a sector opens, which it must not but as the stamp and
// the data that were sealed.
func opens(t *testing.T, sector string, x api.Stamp, s string) bool {
	t.Helper()
	y, got, err := stamp.Open(sector)
	switch {
	case err == api.OK && y == x && got == s:
		return true
	case err == api.ErrBad && y == (api.Stamp{}) && got == "":
		return false
	}
	t.Fatalf("Seal(%v, %q) torn: Open(%x) is %v, %q, %d", x, s, sector, y, got, err)
	return false
}

// TestTorn is of P6.3: written over a blank sector, torn at each place. It
// opens if nothing but bytes 0 were lost.
func TestTorn(t *testing.T) {
	for _, x := range tornStamps() {
		for _, s := range tornTexts() {
			a := sealed(t, x, s)
			for n := range 129 {
				b := torn(a, n, zeros(128))
				if got := opens(t, b, x, s); got != (b == a) {
					t.Fatalf("Seal(%v, %q) torn at %d opens: %t", x, s, n, got)
				}
			}
		}
	}
}

// TestTornAndBlanked is of P6.3: then one blank sector is written, torn at each
// place, and another one behind it, torn anywhere.
func TestTornAndBlanked(t *testing.T) {
	for _, x := range tornStamps() {
		for _, s := range tornTexts() {
			a := sealed(t, x, s)
			for n := range 129 {
				b := torn(a, n, zeros(128))
				for m := range 129 {
					c := torn(zeros(128), m, b)
					if got := opens(t, c, x, s); got != (c == a) {
						t.Fatalf("Seal(%v, %q) torn at %d, blanked to %d, opens: %t", x, s, n, m, got)
					}
				}
			}
			for _, n := range []int{0, 6, 15, 119, 121, 126, 127, 128} {
				for m := range 129 {
					for _, k := range []int{0, 1, 5, 6, 7, 8, 16, 120, 126, 127, 128} {
						c := torn(zeros(128), k, torn(zeros(128), m, torn(a, n, zeros(128))))
						if got := opens(t, c, x, s); got != (c == a) {
							t.Fatalf("Seal(%v, %q) torn at %d, blanked to %d and %d, opens: %t", x, s, n, m, k, got)
						}
					}
				}
			}
		}
	}
}

// TestTornWithTheSum is of P6.3: that it does not depend on the checksum. Here
// the checksum is right for what is left, and only the marks tell.
func TestTornWithTheSum(t *testing.T) {
	sumIs := func(sector string, length int) bool {
		sum := crc32.ChecksumIEEE([]byte(sector[:12] + sector[16:16+length]))
		return sector[12:16] == string([]byte{byte(sum >> 24), byte(sum >> 16), byte(sum >> 8), byte(sum)})
	}
	for _, x := range tornStamps() {
		for _, before := range []int{0, 1, 60, 98, 99} {
			s := scattered(before) + sameSum
			b := torn(sealed(t, x, s), 16+before, zeros(128))
			if !sumIs(b, len(s)) {
				t.Fatalf("the checksum of Seal(%v, %q) tells that it is torn", x, s)
			}
			wantBad(t, "the end of the data lost", b)
		}
	}
	for _, s := range tornTexts() {
		a := sealed(t, api.Stamp{Num: sameSumNum, Index: 0, Count: 1}, s)
		c := torn(zeros(128), 6, torn(a, 120, zeros(128)))
		if !sumIs(c, len(s)) {
			t.Fatalf("the checksum of Seal(%#x, %q) tells that it is blanked", sameSumNum, s)
		}
		wantBad(t, "both marks lost", c)
	}
}

// TestTornOnDisk is of P6.3: the same on a disk, which stops and crashes.
func TestTornOnDisk(t *testing.T) {
	x, s := api.Stamp{Num: 0x0102030405, Index: 1, Count: 2}, scattered(99)+sameSum
	a := sealed(t, x, s)
	for n := range 128 {
		for m := range 128 {
			d, err := disk.New(2)
			if err != api.OK {
				t.Fatalf("New has the error %d", err)
			}
			write := func(data string, tear int) {
				if err := d.Write(1, data); err != api.OK {
					t.Fatalf("Write has the error %d", err)
				}
				if err := d.Crash([]bool{true}, tear); err != api.OK {
					t.Fatalf("Crash has the error %d", err)
				}
			}
			write(a, n)
			write(zeros(128), m)
			b := d.Sectors()[1]
			if got := opens(t, b, x, s); got != (b == a) {
				t.Fatalf("torn at %d, blanked to %d, opens: %t", n, m, got)
			}
			if stamp.Blank(b) != (strings.Trim(b, "\x00") == "") {
				t.Fatalf("torn at %d, blanked to %d: Blank is %t", n, m, stamp.Blank(b))
			}
		}
	}
}
