package saga_test

import (
	"math"
	"math/big"
	"slices"
	"strings"
	"testing"

	"drayman/api"
	"drayman/saga"
	"drayman/wire"
)

// wantInt is the encoding of a number, as chapter 3 defines it.
func wantInt(n int) string {
	x := big.NewInt(int64(n))
	x.Lsh(x, 1)
	if n < 0 {
		x.Not(x)
	}
	return string(rune(len(x.Bytes()))) + string(x.Bytes())
}

// wantText is the encoding of a string.
func wantText(s string) string { return wantInt(len(s)) + s }

// parts are the encodings of what a saga has, in their order: each number, each name,
// and what there is of lines and marks, one by one.
func parts(s api.Saga) []string {
	l := []string{wantInt(s.Id), wantText(s.Ref), wantText(s.Def), wantInt(len(s.Lines))}
	for _, x := range s.Lines {
		l = append(l, wantText(x.Sku), wantInt(x.N))
	}
	l = append(l, wantInt(s.Sum), wantInt(s.Mode), wantInt(s.Was), wantInt(s.At), wantInt(s.Tries), wantInt(s.Why), wantInt(len(s.Marks)))
	for _, n := range s.Marks {
		l = append(l, wantInt(n))
	}
	return l
}

// wantPut is the encoding of a saga.
func wantPut(s api.Saga) string { return strings.Join(parts(s), "") }

// checkPut holds Put against what is wanted.
func checkPut(t *testing.T, s api.Saga, want string) {
	t.Helper()
	if got := saga.Put(s); got != want {
		t.Errorf("Put is %.300x, want %.300x, of %s", got, want, short(s))
	}
}

// written are sagas by their encodings, which are written out.
func written() map[string]api.Saga {
	return map[string]api.Saga{
		"\x00\x00\x00\x00\x00\x00\x00\x00\x00\x00\x00": {},
		"\x01\x02\x01\x02a\x01\x0eprepaid\x00\x01\x0a\x01\x02\x00\x01\x02\x00\x00\x01\x06\x01\x04\x01\x02\x00": {
			Id: 1, Ref: "a", Def: "prepaid", Sum: 5, Mode: 1, At: 1, Marks: []int{2, 1, 0}},
		"\x01\x02\x01\x04\xc3\xa4\x01\x02x\x01\x04\x01\x08salt\x01\x06\x01\x06tea\x01\x08\x01\x0a\x01\x0c\x01\x0e\x01\x10\x01\x12\x01\x14\x01\x02\x01\x16": {
			Id: 1, Ref: "ä", Def: "x", Lines: []api.Line{{Sku: "salt", N: 3}, {Sku: "tea", N: 4}}, Sum: 5, Mode: 6, Was: 7, At: 8, Tries: 9, Why: 10, Marks: []int{11}},
		"\x06\x02\x00\x00\x00\x00\x00\x00\x00\x00\x06\x02\x00\x00\x00\x00\x00\x01\x06\x01\x04\x01\x02\x01\x04\x01\x08\x01\x08\x01\x04\x01\x06\x01\x08\x00": {
			Id: most, Sum: most, Mode: 3, Was: 2, At: 1, Tries: 2, Why: 4, Marks: []int{2, 3, 4, 0}},
		"\x08\xff\xff\xff\xff\xff\xff\xff\xff\x01\x02\xff\x01\x02\x00\x00\x08\xff\xff\xff\xff\xff\xff\xff\xfe\x01\x01\x01\x03\x01\x05\x02\x01\x00\x03\x20\x00\x00\x01\x0c\x00\x00\x00\x00\x00\x01\x01": {
			Id: math.MinInt, Ref: "\xff", Def: "\x00", Sum: math.MaxInt, Mode: -1, Was: -2, At: -3, Tries: 128, Why: 1 << 20, Marks: []int{0, 0, 0, 0, 0, -1}},
		"\x01\x01\x00\x01\x02x\x01\x08\x00\x00\x00\x00\x00\x00\x00\x00\x00\x00\x00\x00\x00\x00\x00": {Id: -1, Def: "x", Lines: make([]api.Line, 4)},
	}
}

// anyNumbers are numbers of each length of an encoding, and such as no saga has.
func anyNumbers() []int {
	return append(far(), 0, 1, 2, 3, 4, 5, 6, 63, 64, 127, 128, 129, 1<<15-1, 1<<15, 1<<23, 1<<39, most-1, most, most+1, 1<<47, 1<<55, 1<<55-1, -64, -65, -128, -129, -1<<15, -1<<15-1, -1<<23, -most, -1<<47, -1<<55)
}

// texts are strings of up to 48 bytes, of which some are names.
func texts() []string {
	l := []string{"", "a", "ä", "A", "\x00", "\xff", " ", "a b", "order-1", "abcdefghijkl", strings.Repeat("𝔞", 12), "\x01\x02"}
	for size := range 49 {
		l = append(l, strings.Repeat("x", size))
	}
	return append(l, strings.Repeat("ä", 24), strings.Repeat("\x00", 48), strings.Repeat("\xff", 48))
}

// mixed is a saga that is not fit, no two fields of which are the same.
func mixed() api.Saga {
	return api.Saga{Id: 300, Ref: "ab", Def: "c", Lines: []api.Line{{Sku: "tea", N: -1}, {Sku: "salt", N: 1 << 20}}, Sum: most, Mode: 7, Was: -2, At: 40, Tries: 500, Why: -6000, Marks: []int{9, -300, 0, 70000}}
}

// wide are sagas that Take can read, of which most are not fit: any number in each
// field, any strings, and any lines and marks.
func wide() []api.Saga {
	l := []api.Saga{{}, mixed(), plain(of("as"))}
	for i, n := range anyNumbers() {
		for _, s := range []api.Saga{{}, mixed()} {
			for _, field := range append(numbers(), func(s *api.Saga) *int { return &s.Id }, func(s *api.Saga) *int { return &s.Sum }) {
				l = append(l, set(s, field, n))
			}
			s.Marks = slices.Repeat([]int{n, i}, i%4)
			s.Lines = slices.Repeat([]api.Line{{Sku: "a", N: n}}, i%5)
			l = append(l, s)
		}
		l = append(l, api.Saga{Id: n, Sum: n + 1, Mode: n + 2, Was: n + 3, At: n + 4, Tries: n + 5, Why: n + 6, Marks: []int{n + 7}})
	}
	for i, text := range texts() {
		s := mixed()
		s.Lines = slices.Repeat([]api.Line{{Sku: text, N: i}}, i%5)
		l = append(l, s, api.Saga{Ref: text}, api.Saga{Def: text}, api.Saga{Id: i, Ref: text, Def: text, Marks: make([]int, i%7)})
	}
	return l
}

// over are sagas that Take cannot read: each is over one bound, by one or by more.
func over() []api.Saga {
	var l []api.Saga
	for _, form := range []string{"as", "hs as ks bp sf tf"} {
		for _, text := range []string{strings.Repeat("a", 49), strings.Repeat("ä", 25), strings.Repeat("\x00", 50), strings.Repeat("𝔞", 13), strings.Repeat("x", 1<<16)} {
			for at := range 3 {
				s := copied(few(of(form))[0])
				*[]*string{&s.Ref, &s.Def, &s.Lines[1].Sku}[at] = text
				l = append(l, s)
			}
		}
		for _, many := range []int{7, 8, 12, 63, 64, 127, 128, 129, 255, 256, 1 << 15, 1 << 16} {
			s := few(of(form))[0]
			lines := s
			s.Marks = slices.Repeat([]int{2}, many)
			lines.Lines = slices.Repeat(lines.Lines[:1], many-2)
			l = append(l, s, lines)
		}
	}
	return l
}

// fitting are fit sagas for some definitions.
func fitting() []api.Saga {
	var l []api.Saga
	for _, form := range forms() {
		l = append(l, few(of(form))...)
	}
	return l
}

// TestPut is of P24.2: encodings that are written out.
func TestPut(t *testing.T) {
	for want, s := range written() {
		checkPut(t, s, want)
		if s.Lines == nil {
			s.Lines = []api.Line{}
			checkPut(t, s, want)
		}
		if s.Marks == nil {
			s.Marks = []int{}
			checkPut(t, s, want)
		}
	}
	checkPut(t, api.Saga{Lines: make([]api.Line, 5)}, "\x00\x00\x00\x01\x0a"+strings.Repeat("\x00", 10+7))
	checkPut(t, api.Saga{Marks: make([]int, 7)}, strings.Repeat("\x00", 10)+"\x01\x0e"+strings.Repeat("\x00", 7))
	checkPut(t, api.Saga{Ref: strings.Repeat("a", 64)}, "\x00\x01\x80"+strings.Repeat("a", 64)+strings.Repeat("\x00", 9))
}

// TestPutOfAny is of P24.2: sagas that are fit, and such as are not, also over each
// bound of Take; none is changed.
func TestPutOfAny(t *testing.T) {
	for _, s := range slices.Concat(fitting(), wide(), over()) {
		was := copied(s)
		checkPut(t, s, wantPut(s))
		if !equal(s, was) {
			t.Errorf("Put left %s of %s", short(s), short(was))
		}
	}
	for _, s := range fits(of("hs as ks tp sf")) {
		checkPut(t, s, wantPut(s))
	}
}

// TestPutOfEach is of P24.3: sagas that differ, in whatever, have encodings that do.
func TestPutOfEach(t *testing.T) {
	seen := map[string]api.Saga{}
	for _, s := range slices.Concat(fits(of("hs as ks bp sf tf")), fitting(), wide(), over()) {
		if other, is := seen[saga.Put(s)]; is && !equal(s, other) {
			t.Errorf("the same encoding have %s and %s", short(s), short(other))
		}
		seen[saga.Put(s)] = s
	}
	if len(seen) < 2000 {
		t.Errorf("there are %d encodings", len(seen))
	}
}

// TestPutTogether is of P24.2: it is what the layers below write, in the order of the
// chapter.
func TestPutTogether(t *testing.T) {
	s := mixed()
	want := wire.Int(300) + wire.Text("ab") + wire.Text("c") + wire.Int(2) + wire.Text("tea") + wire.Int(-1) + wire.Text("salt") + wire.Int(1<<20) + wire.Ints(most, 7, -2, 40, 500, -6000) + wire.Int(4) + wire.Ints(9, -300, 0, 70000)
	checkPut(t, s, want)
}
