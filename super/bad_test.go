package super_test

import (
	"strings"
	"testing"

	"drayman/api"
)

// TestDecodeOfOtherLength is of P7.1: a sector has 128 bytes.
func TestDecodeOfOtherLength(t *testing.T) {
	for _, x := range append(shapes(), whole()) {
		x.Gen = 9
		a := sectorOf(x)
		for n := range 128 {
			wantBad(t, "the beginning", a[:n])
			wantBad(t, "the end", a[128-n:])
		}
		for _, more := range []string{"\x00", "a", a[:8], a} {
			wantBad(t, "more behind it", a+more)
			wantBad(t, "more before it", more+a)
		}
		wantBad(t, "the fields alone", data(x))
	}
	for n := range 300 {
		wantBad(t, "bytes 0", zeros(n))
		wantBad(t, "bytes 255", strings.Repeat("\xff", n))
	}
}

// TestDecodeOfChanged is of P7.1: any one byte changed to any other.
func TestDecodeOfChanged(t *testing.T) {
	for _, x := range []api.Super{whole(), {Gen: 3, Log: []int{1}}, {Gen: 1 << 40, Base: 1 << 40, Log: span(0, 63)}} {
		a := []byte(sectorOf(x))
		for i := range a {
			for by := 1; by < 256; by++ {
				a[i] ^= byte(by)
				wantBad(t, "one byte changed", string(a))
				a[i] ^= byte(by)
			}
		}
		wantDecode(t, string(a), x)
	}
}

// TestDecodeOfOtherStamp is of P7.1: the stamp is Gen, 0 of 1, and no other.
func TestDecodeOfOtherStamp(t *testing.T) {
	for _, gen := range []int{1, 2, 3, 9, 256, 1<<40 - 1, 1 << 40} {
		x := api.Super{Gen: gen, Base: 5, Log: []int{4, 2}}
		for _, y := range []api.Stamp{
			{Num: gen, Index: 1, Count: 1}, {Num: gen, Index: 0, Count: 2}, {Num: gen, Index: 1, Count: 2},
			{Num: gen, Index: 0, Count: 512}, {Num: gen, Index: 511, Count: 512}, {Num: gen, Index: 0, Count: 0}, {Num: gen, Index: 0, Count: 257},
			{Num: gen + 1, Index: 0, Count: 1}, {Num: gen - 1, Index: 0, Count: 1}, {Num: gen + 256, Index: 0, Count: 1},
			{Num: x.Base + 1<<20, Index: 0, Count: 1}, {Num: 0, Index: 0, Count: 1}, {Num: 1<<40 + 1, Index: 0, Count: 1},
		} {
			wantBad(t, "another stamp", sealed(y, data(x)))
		}
		wantDecode(t, sealed(api.Stamp{Num: gen, Index: 0, Count: 1}, data(x)), x)
	}
}

// TestDecodeOfOtherEnd is of P7.1: bytes behind the last field, or too few.
func TestDecodeOfOtherEnd(t *testing.T) {
	for _, x := range append(shapes(), whole()) {
		x.Gen, x.Base = 9, 1<<40
		y := api.Stamp{Num: x.Gen, Index: 0, Count: 1}
		s := data(x)
		for n := range s {
			wantBad(t, "too few bytes", sealed(y, s[:n]))
		}
		for _, more := range []string{"\x00", "\x00\x00", "a", "\xff", "\x01\x02", s[:5], zeros(104 - len(s)), s + s} {
			if len(s+more) <= 104 {
				wantBad(t, "bytes behind the last field", sealed(y, s+more))
			}
		}
		wantBad(t, "bytes before the first field", sealed(y, "\x00"+s))
		wantDecode(t, sealed(y, s), x)
	}
}

// TestDecodeOfUnfit is of P7.1: sealed and encoded as it must be, but not fit.
func TestDecodeOfUnfit(t *testing.T) {
	for _, x := range unfit() {
		// Only where one byte for each number tells them all.
		if s := data(x); len(s) <= 104 && bytesOnly(x.Check) && bytesOnly(x.Log) {
			wantBad(t, "a superblock that is not fit", sectorOf(x))
		}
	}
}

// bytesOnly reports whether all numbers of a list are bytes.
func bytesOnly(l []int) bool {
	for _, n := range l {
		if n < 0 || n > 255 {
			return false
		}
	}
	return true
}

// TestDecodeOfOtherFields is of P7.1: the same superblock, with its fields in
// another order or encoded in another way.
func TestDecodeOfOtherFields(t *testing.T) {
	y := api.Stamp{Num: 2, Index: 0, Count: 1}
	check, log := []int{1}, []int{2}
	wantDecode(t, sealed(y, numbers(2, 0, 0, 1)+list(check)+list(log)), api.Super{Gen: 2, CheckGen: 1, Check: check, Log: log})
	for what, s := range map[string]string{
		"a zero byte leads":            "\x02\x00\x04" + numbers(0, 0, 1) + list(check) + list(log),
		"a number 0 of one byte":       number(2) + "\x01\x00" + numbers(0, 1) + list(check) + list(log),
		"a length with a zero byte":    numbers(2, 0, 0, 1) + "\x02\x00\x02\x01" + list(log),
		"a length of nine bytes":       numbers(2, 0, 0, 1) + "\x09" + zeros(8) + "\x02\x01" + list(log),
		"a length below 0":             numbers(2, 0, 0, 1) + number(-1) + list(log),
		"a length below 0 at the end":  numbers(2, 0, 0, 1) + list(check) + number(-1),
		"a length beyond the end":      numbers(2, 0, 0, 1) + list(check) + "\x01\x04\x02",
		"a length short of the end":    numbers(2, 0, 0, 1) + list(check) + "\x01\x02\x02\x03",
		"a list of encoded numbers":    numbers(2, 0, 0, 1) + number(1) + numbers(check...) + number(1) + numbers(log...),
		"CheckGen ahead of Size":       numbers(2, 0, 1, 0) + list(check) + list(log),
		"the lists ahead":              list(check) + list(log) + numbers(2, 0, 0, 1),
		"the fourth number is missing": numbers(2, 0, 0) + list(check) + list(log),
		"a fifth number":               numbers(2, 0, 0, 1, 0) + list(check) + list(log),
		"a third list":                 numbers(2, 0, 0, 1) + list(check) + list(log) + list(nil),
		"one list":                     numbers(2, 0, 0, 1) + list(append(check, log...)),
		"no list":                      numbers(2, 0, 0, 1),
		"nothing":                      "",
		"a list of 64 bytes":           numbers(2, 0, 0, 0) + list(nil) + list(span(0, 64)),
		"a list of 80 bytes":           numbers(2, 0, 0, 0) + list(nil) + list(span(0, 80)),
		"lists of 85 bytes":            numbers(2, 0, 0, 1) + list(span(0, 42)) + list(span(20, 63)),
	} {
		wantBad(t, what, sealed(y, s))
	}
}
