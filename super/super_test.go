package super_test

import (
	"encoding/binary"
	"hash/crc32"
	"math"
	"math/big"
	"slices"
	"strings"
	"testing"

	"drayman/api"
	"drayman/super"
)

// zeros is n bytes 0.
func zeros(n int) string { return strings.Repeat("\x00", n) }

// span is the numbers from low on, up to but not including high.
func span(low, high int) []int {
	var l []int
	for n := low; n < high; n++ {
		l = append(l, n)
	}
	return l
}

// down is a list in the other order.
func down(l []int) []int {
	l = slices.Clone(l)
	slices.Reverse(l)
	return l
}

// number is the encoding of a number (chapter 3).
func number(n int) string {
	b := new(big.Int).SetUint64(uint64(n)<<1 ^ uint64(n>>63)).Bytes()
	return string(byte(len(b))) + string(b)
}

// numbers are the encodings of numbers, joined.
func numbers(l ...int) string {
	s := ""
	for _, n := range l {
		s += number(n)
	}
	return s
}

// list is the encoding of a list, one byte for each number.
func list(l []int) string {
	s := number(len(l))
	for _, n := range l {
		s += string([]byte{byte(n)})
	}
	return s
}

// data is what the sector of a superblock contains.
func data(x api.Super) string {
	return numbers(x.Gen, x.Base, x.Size, x.CheckGen) + list(x.Check) + list(x.Log)
}

// sealed is a sector that is sealed with any stamp, also one that is not fit.
func sealed(x api.Stamp, s string) string {
	mark := binary.BigEndian.AppendUint64(nil, uint64(x.Num))[2:]
	mark = binary.BigEndian.AppendUint16(mark, uint16(x.Index))
	b := binary.BigEndian.AppendUint16(slices.Clone(mark), uint16(x.Count))
	b = binary.BigEndian.AppendUint16(b, uint16(len(s)))
	b = binary.BigEndian.AppendUint32(b, crc32.ChecksumIEEE(append(slices.Clone(b), s...)))
	return string(b) + s + zeros(104-len(s)) + string(mark)
}

// sectorOf is the sector of a superblock, also of one that is not fit.
func sectorOf(x api.Super) string {
	return sealed(api.Stamp{Num: x.Gen, Index: 0, Count: 1}, data(x))
}

// dup is a copy that shares nothing.
func dup(x api.Super) api.Super {
	x.Check, x.Log = slices.Clone(x.Check), slices.Clone(x.Log)
	return x
}

// equal holds superblocks against each other without the package's help.
func equal(a, b api.Super) bool {
	return a.Gen == b.Gen && a.Base == b.Base && a.Size == b.Size && a.CheckGen == b.CheckGen &&
		slices.Equal(a.Check, b.Check) && slices.Equal(a.Log, b.Log)
}

// none reports whether nothing stands beside an error.
func none(x api.Super) bool { return equal(x, api.Super{}) }

// encoded encodes, and must get OK.
func encoded(t *testing.T, x api.Super) string {
	t.Helper()
	s, err := super.Encode(x)
	if err != api.OK {
		t.Fatalf("Encode(%v) has the error %d", x, err)
	}
	return s
}

// wantDecode holds what Decode answers against a superblock.
func wantDecode(t *testing.T, sector string, want api.Super) {
	t.Helper()
	if x, err := super.Decode(sector); !equal(x, want) || err != api.OK {
		t.Fatalf("Decode(%x) is %v, %d; want %v", sector, x, err, want)
	}
}

// wantBad holds what Decode answers against ErrBad, and nothing beside it; nor
// may such a sector count against one that is good.
func wantBad(t *testing.T, what, sector string) {
	t.Helper()
	if x, err := super.Decode(sector); !none(x) || err != api.ErrBad {
		t.Fatalf("%s: Decode(%x) is %v, %d; want ErrBad", what, sector, x, err)
	}
	least := api.Super{Gen: 1, Log: []int{0}}
	wantBest(t, sector, sectorOf(least), least, 1)
	wantBest(t, sectorOf(least), sector, least, 0)
	wantNone(t, sector, sector)
}

// wantBest holds what Best answers against a superblock and its place.
func wantBest(t *testing.T, a, b string, want api.Super, place int) {
	t.Helper()
	if x, n, err := super.Best(a, b); !equal(x, want) || n != place || err != api.OK {
		t.Fatalf("Best(%x, %x) is %v, %d, %d; want %v, %d", a, b, x, n, err, want, place)
	}
}

// wantNone holds what Best answers against ErrBad, and nothing beside it.
func wantNone(t *testing.T, a, b string) {
	t.Helper()
	if x, n, err := super.Best(a, b); !none(x) || n != 0 || err != api.ErrBad {
		t.Fatalf("Best(%x, %x) is %v, %d, %d; want ErrBad", a, b, x, n, err)
	}
}

// shapes are fit superblocks, at the edges of what Check and Log may be.
func shapes() []api.Super {
	return []api.Super{
		{Log: []int{0}}, {Log: []int{1}}, {Log: []int{62}}, {Log: []int{62, 0}}, {Log: []int{5, 3, 4}},
		{Log: span(0, 63)}, {Log: down(span(0, 63))}, {Log: span(1, 62)},
		{CheckGen: 1, Check: []int{0}, Log: []int{62}},
		{CheckGen: 1, Check: []int{62}, Log: []int{0}, Size: 1},
		{CheckGen: 1, Check: []int{7}, Log: []int{8}, Size: 831},
		{CheckGen: 1, Check: []int{7}, Log: []int{8}, Size: 832},
		{CheckGen: 1, Check: []int{9, 3}, Log: []int{4, 2}, Size: 833},
		{CheckGen: 1, Check: []int{3, 9}, Log: []int{2, 4, 6}, Size: 1664},
		{CheckGen: 1, Check: span(0, 62), Log: []int{62}},
		{CheckGen: 1, Check: span(1, 63), Log: []int{0}, Size: 51583},
		{CheckGen: 1, Check: down(span(1, 63)), Log: []int{0}, Size: 51584},
		{CheckGen: 1, Check: []int{31}, Log: append(span(0, 31), span(32, 63)...), Size: 832},
		{CheckGen: 1, Check: down(span(0, 31)), Log: span(31, 63), Size: 31 * 832},
		{CheckGen: 1, Check: span(32, 63), Log: down(span(0, 32)), Size: 255},
	}
}

// fits are fit superblocks, those at the edges among them.
func fits() []api.Super {
	var l []api.Super
	for _, x := range shapes() {
		for _, gen := range []int{1, 2, 3, 63, 64, 127, 128, 32767, 32768, 1<<39 - 1, 1 << 39, 1<<40 - 1, 1 << 40} {
			for _, base := range []int{0, 1, 64, 128, 1<<40 - 1, 1 << 40} {
				x.Gen, x.Base = gen, base
				l = append(l, x)
				if x.CheckGen != 0 {
					x.CheckGen = gen
					l = append(l, x)
					x.CheckGen = max(1, gen-1)
					l = append(l, x)
					x.CheckGen = 1
				}
			}
		}
	}
	return l
}

// whole is a fit superblock of which each field can be made wrong.
func whole() api.Super {
	return api.Super{Gen: 9, Base: 4, Size: 1000, CheckGen: 7, Check: []int{3, 1}, Log: []int{2, 62, 0}}
}

// with is a superblock that is changed.
func with(x api.Super, change func(*api.Super)) api.Super {
	x = dup(x)
	change(&x)
	return x
}

// unfit are superblocks of which one field, or several, are wrong.
func unfit() []api.Super {
	l := []api.Super{{}, {Gen: 1}, {Log: []int{1}}}
	add := func(change func(*api.Super)) { l = append(l, with(whole(), change)) }
	for _, gen := range []int{math.MinInt, -1 << 40, -9, -1, 0, 1<<40 + 1, 1 << 41, 1<<48 + 9, math.MaxInt} {
		add(func(x *api.Super) { x.Gen = gen })
		l = append(l, api.Super{Gen: gen, Log: []int{1}})
	}
	for _, base := range []int{math.MinInt, -1 << 40, -1, 1<<40 + 1, 1 << 41, math.MaxInt} {
		add(func(x *api.Super) { x.Base = base })
		l = append(l, api.Super{Gen: 1, Base: base, Log: []int{1}})
	}
	for _, gen := range []int{math.MinInt, -9, -1, 0, 10, 11, 1 << 40, 1<<40 + 1, math.MaxInt} {
		add(func(x *api.Super) { x.CheckGen = gen })
	}
	for _, gen := range []int{math.MinInt, -1, 1, 2, 9, 10, math.MaxInt} {
		l = append(l, api.Super{Gen: 9, CheckGen: gen, Log: []int{1}})
		l = append(l, api.Super{Gen: 9, CheckGen: gen, Check: []int{}, Log: []int{1}})
	}
	return append(append(l, unfitSizes()...), unfitLists()...)
}

// unfitSizes are superblocks with a Size that Check does not allow.
func unfitSizes() []api.Super {
	var l []api.Super
	for _, size := range []int{math.MinInt, -1 << 40, -832, -1} {
		l = append(l, with(whole(), func(x *api.Super) { x.Size = size }), api.Super{Gen: 1, Size: size, Log: []int{1}})
	}
	for _, size := range []int{1, 104, 831, 832, 833, 1 << 40, math.MaxInt} {
		l = append(l, api.Super{Gen: 1, Size: size, Log: []int{1}})
		l = append(l, api.Super{Gen: 1, Size: size, Log: span(0, 63)})
	}
	for n := 1; n < 63; n++ {
		for _, more := range []int{1, 2, 104, 832, 1 << 40, math.MaxInt - 832*n} {
			l = append(l, api.Super{Gen: 1, Size: 832*n + more, CheckGen: 1, Check: span(0, n), Log: span(n, 63)})
		}
	}
	return l
}

// unfitLists are superblocks with segments that there are not, or that occur
// twice, and without a Log.
func unfitLists() []api.Super {
	var l []api.Super
	for _, n := range []int{math.MinInt, -256, -255, -193, -63, -1, 63, 64, 127, 128, 255, 256, 257, 318, math.MaxInt} {
		l = append(l, api.Super{Gen: 1, Log: []int{n}}, api.Super{Gen: 1, Log: []int{1, n}}, api.Super{Gen: 1, Log: []int{n, 1}})
		for place := range 2 {
			l = append(l, with(whole(), func(x *api.Super) { x.Check[place] = n }), with(whole(), func(x *api.Super) { x.Log[place] = n }))
		}
	}
	for _, n := range []int{0, 1, 31, 62} {
		for _, log := range [][]int{{n, n}, {n, 5, n}, {5, n, n}, {n, n, 5}, append(span(0, 63), n)} {
			l = append(l, api.Super{Gen: 1, Log: log}, api.Super{Gen: 1, CheckGen: 1, Check: log, Log: []int{7}})
		}
		l = append(l, api.Super{Gen: 1, CheckGen: 1, Check: []int{n}, Log: []int{n}})
		l = append(l, api.Super{Gen: 1, CheckGen: 1, Check: []int{9, n}, Log: []int{n, 8}})
		l = append(l, api.Super{Gen: 1, CheckGen: 1, Check: []int{n}, Log: span(0, 63)})
		l = append(l, api.Super{Gen: 1, CheckGen: 1, Check: span(0, 62), Log: []int{62, n}})
	}
	for _, log := range [][]int{nil, {}} {
		l = append(l, api.Super{Gen: 1, Log: log}, api.Super{Gen: 1, Check: log, Log: log})
		l = append(l, with(whole(), func(x *api.Super) { x.Log = log }))
		l = append(l, api.Super{Gen: 1, CheckGen: 1, Check: span(0, 63), Log: log})
	}
	return append(l, api.Super{Gen: 1, Log: span(0, 64)}, api.Super{Gen: 1, Log: span(0, 256)}, api.Super{Gen: 1, CheckGen: 1, Check: span(0, 63), Log: []int{63}})
}

// TestFit is of P7.1.
func TestFit(t *testing.T) {
	for _, x := range append(fits(), whole()) {
		if !super.Fit(x) {
			t.Errorf("Fit(%v) is false", x)
		}
		if x.Check == nil {
			x.Check = []int{}
			if !super.Fit(x) {
				t.Errorf("Fit(%v) is false with an empty Check", x)
			}
		}
	}
	for _, x := range unfit() {
		if super.Fit(x) {
			t.Errorf("Fit(%v) is true", x)
		}
	}
}

// TestFitOfSize is of P7.1: each Size that the segments of Check can contain,
// and one more.
func TestFitOfSize(t *testing.T) {
	for n := range 63 {
		x := api.Super{Gen: 2, Check: span(0, n), Log: span(n, 63)}
		if n > 0 {
			x.CheckGen = 1
		}
		for x.Size = -1; x.Size <= 832*62+1; x.Size++ {
			if is := x.Size >= 0 && x.Size <= 832*n; super.Fit(x) != is {
				t.Fatalf("Fit(%v) is %t", x, !is)
			}
		}
	}
}

// TestFitOfGens is of P7.1: each CheckGen around each Gen, with Check and not.
func TestFitOfGens(t *testing.T) {
	for _, most := range []int{1, 2, 9, 1 << 39, 1 << 40} {
		for gen := most - 3; gen <= most+3; gen++ {
			for _, check := range []int{-1, 0, 1, 2, gen - 1, gen, gen + 1, gen + 2} {
				good := gen >= 1 && gen <= 1<<40
				x := api.Super{Gen: gen, CheckGen: check, Log: []int{1}}
				if is := good && check == 0; super.Fit(x) != is {
					t.Errorf("Fit(%v) is %t", x, !is)
				}
				x.Check = []int{0}
				if is := good && check >= 1 && check <= gen; super.Fit(x) != is {
					t.Errorf("Fit(%v) is %t", x, !is)
				}
			}
		}
	}
}

// TestFitOfLong is of rule 0.1: lists of any length.
func TestFitOfLong(t *testing.T) {
	for _, l := range [][]int{make([]int, 1<<20), span(0, 1<<20), slices.Repeat(span(0, 63), 1<<12)} {
		for _, x := range []api.Super{{Gen: 1, Log: l}, {Gen: 1, CheckGen: 1, Check: l, Log: []int{1}}, {Gen: 1, CheckGen: 1, Check: l, Log: l}} {
			if super.Fit(x) {
				t.Errorf("Fit is true for lists of %d and %d numbers", len(x.Check), len(x.Log))
			}
			if s, err := super.Encode(x); s != "" || err != api.ErrArg {
				t.Errorf("Encode of lists of %d and %d numbers is %x, %d", len(x.Check), len(x.Log), s, err)
			}
		}
	}
}

// TestEncode is of P7.1: sectors that are written out.
func TestEncode(t *testing.T) {
	for _, c := range []struct {
		x    api.Super
		want string
	}{
		{
			api.Super{Gen: 3, Log: []int{1}},
			"\x00\x00\x00\x00\x00\x03\x00\x00" + "\x00\x01" + "\x00\x09" + "\x9a\x9b\x33\x3b" +
				"\x01\x06" + "\x00" + "\x00" + "\x00" + "\x00" + "\x01\x02\x01" +
				zeros(95) + "\x00\x00\x00\x00\x00\x03\x00\x00",
		}, {
			api.Super{Gen: 1 << 40, Base: 200, Size: 833, CheckGen: 5, Check: []int{62, 0}, Log: []int{9, 4, 16}},
			"\x01\x00\x00\x00\x00\x00\x00\x00" + "\x00\x01" + "\x00\x18" + "\xd6\xfb\xdf\xf0" +
				"\x06\x02\x00\x00\x00\x00\x00" + "\x02\x01\x90" + "\x02\x06\x82" + "\x01\x0a" +
				"\x01\x04\x3e\x00" + "\x01\x06\x09\x04\x10" +
				zeros(80) + "\x01\x00\x00\x00\x00\x00\x00\x00",
		},
	} {
		if got := encoded(t, c.x); got != c.want {
			t.Errorf("Encode(%v) is %x, want %x", c.x, got, c.want)
		}
	}
}

// TestEncodeOfAny is of P7.1: any fit superblock has room, and any other gets
// ErrArg.
func TestEncodeOfAny(t *testing.T) {
	for _, x := range append(fits(), whole()) {
		if got, want := encoded(t, x), sectorOf(x); got != want || len(got) != 128 {
			t.Errorf("Encode(%v) is %x, want %x", x, got, want)
		}
	}
	for _, x := range unfit() {
		if got, err := super.Encode(x); got != "" || err != api.ErrArg {
			t.Errorf("Encode(%v) is %x, %d; want ErrArg", x, got, err)
		}
	}
}

// TestDecode is of P7.1: sectors that Encode had no part in.
func TestDecode(t *testing.T) {
	wantDecode(t, "\x00\x00\x00\x00\x00\x03\x00\x00\x00\x01\x00\x09\x9a\x9b\x33\x3b\x01\x06\x00\x00\x00\x00\x01\x02\x01"+zeros(100)+"\x03\x00\x00", api.Super{Gen: 3, Log: []int{1}})
	for _, x := range append(fits(), whole()) {
		wantDecode(t, sectorOf(x), x)
	}
}

// TestDecodeEncoded is of P7.3: what was encoded, the numbers of each list in
// their order.
func TestDecodeEncoded(t *testing.T) {
	for _, x := range append(fits(), whole()) {
		wantDecode(t, encoded(t, x), x)
	}
	for check := range 63 {
		for log := 1; check+log <= 63; log++ {
			// 38 has no divisor in common with 63, so that none occurs twice.
			l := span(0, check+log)
			for i := range l {
				l[i] = (l[i]*38 + log) % 63
			}
			x := api.Super{Gen: 1 + check*log, Base: log << 34, Check: l[:check], Log: l[check:]}
			if check > 0 {
				x.CheckGen, x.Size = 1+check*log/2, check*832-log
			}
			wantDecode(t, encoded(t, x), x)
		}
	}
}

// TestSlot is of P7.1.
func TestSlot(t *testing.T) {
	for _, c := range []struct{ gen, want int }{
		{0, 0}, {1, 1}, {2, 0}, {3, 1}, {-1, 1}, {-2, 0}, {-3, 1}, {-4, 0},
		{1<<40 - 1, 1}, {1 << 40, 0}, {1<<40 + 1, 1}, {-1 << 40, 0}, {-1<<40 + 1, 1},
		{math.MaxInt, 1}, {math.MaxInt - 1, 0}, {math.MinInt, 0}, {math.MinInt + 1, 1},
	} {
		if got := super.Slot(c.gen); got != c.want {
			t.Errorf("Slot(%d) is %d, want %d", c.gen, got, c.want)
		}
	}
	for gen := -1000; gen < 1000; gen++ {
		if super.Slot(gen) == super.Slot(gen+1) || super.Slot(gen) != super.Slot(gen+2) {
			t.Errorf("Slot(%d) is %d, but Slot(%d) is %d", gen, super.Slot(gen), gen+1, super.Slot(gen+1))
		}
	}
}

// others are superblocks that are not whole(), each in another field.
func others() []api.Super {
	var l []api.Super
	for _, change := range []func(*api.Super){
		func(x *api.Super) { x.Gen++ },
		func(x *api.Super) { x.Gen = -x.Gen },
		func(x *api.Super) { x.Base-- },
		func(x *api.Super) { x.Size++ },
		func(x *api.Super) { x.CheckGen-- },
		func(x *api.Super) { x.Gen, x.CheckGen = x.CheckGen, x.Gen },
		func(x *api.Super) { x.Check = nil },
		func(x *api.Super) { x.Check = x.Check[:1] },
		func(x *api.Super) { x.Check = []int{1, 3} },
		func(x *api.Super) { x.Check[0] += 256 },
		func(x *api.Super) { x.Check = append(x.Check, 3) },
		func(x *api.Super) { x.Log = nil },
		func(x *api.Super) { x.Log = x.Log[1:] },
		func(x *api.Super) { x.Log = x.Log[:2] },
		func(x *api.Super) { x.Log = []int{0, 62, 2} },
		func(x *api.Super) { x.Log[2]++ },
		func(x *api.Super) { x.Log = append(x.Log, 0) },
		func(x *api.Super) { x.Check, x.Log = x.Log, x.Check },
		func(x *api.Super) { x.Check, x.Log = []int{3}, []int{1, 2, 62, 0} },
		func(x *api.Super) { x.Check, x.Log = []int{3, 1, 2}, []int{62, 0} },
	} {
		l = append(l, with(whole(), change))
	}
	return l
}

// TestSame is of P7.1.
func TestSame(t *testing.T) {
	all := append(append(append(fits(), unfit()...), others()...), whole())
	for _, x := range all {
		if !super.Same(x, x) || !super.Same(x, dup(x)) {
			t.Errorf("Same(%v, %v) is false", x, x)
		}
	}
	for i, x := range others() {
		if super.Same(x, whole()) || super.Same(whole(), x) {
			t.Errorf("Same(%v, %v) is true", x, whole())
		}
		for j, y := range others() {
			if super.Same(x, y) != (i == j) {
				t.Errorf("Same(%v, %v) is %t", x, y, i != j)
			}
		}
	}
	a, b := api.Super{Gen: 1}, api.Super{Gen: 1, Check: []int{}, Log: []int{}}
	if !super.Same(a, b) || !super.Same(b, a) {
		t.Error("an empty list is another than a nil list")
	}
}

// TestBest is of P7.2: any two of superblocks with a smaller, the same and a
// greater Gen; Base and all else do not count.
func TestBest(t *testing.T) {
	var l []api.Super
	for _, gen := range []int{1, 2, 3, 127, 128, 255, 256, 65535, 65536, 1<<40 - 1, 1 << 40} {
		l = append(l, api.Super{Gen: gen, Log: []int{gen % 63}})
		l = append(l, api.Super{Gen: gen, Base: 1 << 40, Log: span(0, 9)})
		l = append(l, api.Super{Gen: gen, Base: 3, Size: 832, CheckGen: 1, Check: []int{7}, Log: []int{8}})
	}
	for _, x := range l {
		for _, y := range l {
			want, place := x, 0
			if y.Gen > x.Gen {
				want, place = y, 1
			}
			wantBest(t, sectorOf(x), sectorOf(y), want, place)
		}
	}
	a, b := api.Super{Gen: 3, Log: []int{1}}, api.Super{Gen: 2, Log: []int{2}}
	wantBest(t, sectorOf(a), sectorOf(b), a, 0)
	wantBest(t, sectorOf(b), sectorOf(a), a, 1)
}

// TestBestOfBad is of P7.2: one sector, or both, are not those of superblocks,
// though their Gen is greater, smaller, or the same.
func TestBestOfBad(t *testing.T) {
	bad := []string{"", "a", zeros(127), zeros(128), zeros(129), strings.Repeat("\xff", 128)}
	for _, gen := range []int{1, 2, 3, 1 << 40} {
		bad = append(bad, sectorOf(api.Super{Gen: gen}), sectorOf(api.Super{Gen: gen, CheckGen: 1, Log: []int{1}}))
		good := sectorOf(api.Super{Gen: gen, Log: []int{1}})
		bad = append(bad, good[:127], good+"\x00", good[:8]+zeros(112)+good[120:], good[:120]+zeros(8), zeros(8)+good[8:])
		bad = append(bad, sealed(api.Stamp{Num: gen, Index: 0, Count: 2}, data(api.Super{Gen: gen, Log: []int{1}})))
	}
	for _, a := range bad {
		for _, b := range bad {
			wantNone(t, a, b)
		}
		for _, x := range []api.Super{{Gen: 1, Log: []int{1}}, {Gen: 2, Log: []int{2}}, {Gen: 1 << 40, Log: []int{3}}, whole()} {
			wantBest(t, a, sectorOf(x), x, 1)
			wantBest(t, sectorOf(x), a, x, 0)
		}
	}
}

// TestArguments is of rule 0.5: no call modifies its arguments.
func TestArguments(t *testing.T) {
	for _, x := range append(append(unfit(), shapes()...), whole()) {
		y := dup(x)
		super.Fit(x)
		super.Encode(x)
		super.Same(x, whole())
		super.Same(whole(), x)
		if !equal(x, y) {
			t.Errorf("%v became %v", y, x)
		}
	}
}

// spoil changes all that an answer reaches, also behind its lists.
func spoil(x api.Super) {
	for _, l := range [][]int{x.Check, x.Log} {
		for i := range l[:cap(l)] {
			l[:cap(l)][i] = -1
		}
	}
}

// TestAnew is of rule 7: an answer shares nothing with another, and its lists
// share nothing with each other.
func TestAnew(t *testing.T) {
	a := encoded(t, whole())
	x, _ := super.Decode(a)
	y, _, _ := super.Best(a, "")
	z, _, _ := super.Best("", a)
	spoil(x)
	spoil(y)
	spoil(z)
	wantDecode(t, a, whole())
	wantBest(t, a, a, whole(), 0)
	x, _ = super.Decode(a)
	check, log := append(x.Check, -1), append(x.Log, -2)
	if !equal(x, whole()) || check[2] != -1 || log[3] != -2 {
		t.Errorf("behind the lists of an answer stand %v, %v, %v", x, check, log)
	}
}
