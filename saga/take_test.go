package saga_test

import (
	"slices"
	"strings"
	"testing"

	"drayman/api"
	"drayman/lines"
	"drayman/saga"
	"drayman/wire"
)

// cutter reads from the beginning of a text; it goes wrong where something is not
// there.
type cutter struct {
	rest  string
	wrong bool
}

// number reads a number.
func (c *cutter) number() int {
	s := c.rest
	if c.wrong || s == "" || s[0] > 8 || len(s) <= int(s[0]) || s[0] > 0 && s[1] == 0 {
		*c = cutter{wrong: true}
		return 0
	}
	size := 1 + int(s[0])
	index := uint64(0)
	for _, b := range []byte(s[1:size]) {
		index = index*256 + uint64(b)
	}
	c.rest = s[size:]
	if index%2 == 1 {
		return -1 - int(index/2)
	}
	return int(index / 2)
}

// length reads a number that is the length of something, of at most so many.
func (c *cutter) length(most int) int {
	n := c.number()
	if n < 0 || n > most || n > len(c.rest) {
		*c = cutter{wrong: true}
		return 0
	}
	return n
}

// text reads a string of at most 48 bytes.
func (c *cutter) text() string {
	n := c.length(48)
	s := c.rest[:n]
	c.rest = c.rest[n:]
	return s
}

// wantTake is the reference of Take: what is read from the beginning of a text, and
// what is behind it.
func wantTake(text string) (s api.Saga, rest string, is bool) {
	c := &cutter{rest: text}
	s.Id = c.number()
	s.Ref = c.text()
	s.Def = c.text()
	for range c.length(4) {
		sku := c.text()
		s.Lines = append(s.Lines, api.Line{Sku: sku, N: c.number()})
	}
	for _, field := range []*int{&s.Sum, &s.Mode, &s.Was, &s.At, &s.Tries, &s.Why} {
		*field = c.number()
	}
	for range c.length(6) {
		s.Marks = append(s.Marks, c.number())
	}
	if c.wrong {
		return api.Saga{}, "", false
	}
	return s, c.rest, true
}

// checkTake holds what Take answers of a text against the reference: the saga, and
// where the reader stands behind it. It reports whether there was one.
func checkTake(t *testing.T, text string) bool {
	t.Helper()
	want, rest, is := wantTake(text)
	r := wire.New(text)
	got := saga.Take(r)
	if !equal(got, want) || !is && !isNone(got) {
		t.Fatalf("Take of %.300x is %s, want %s", text, short(got), short(want))
	}
	if r.Left() != len(rest) || r.Done() != (is && rest == "") {
		t.Fatalf("behind Take of %.300x there are %d bytes left, want %d; done is %t", text, r.Left(), len(rest), r.Done())
	}
	return is
}

// checkNone checks that a reader has no saga, and is bad behind that, also when it is
// asked again.
func checkNone(t *testing.T, r *wire.Reader, what string) {
	t.Helper()
	for range 3 {
		if got := saga.Take(r); !isNone(got) || r.Done() || r.Left() != 0 {
			t.Errorf("Take of %.300s is %s; %d bytes are left; done is %t", what, short(got), r.Left(), r.Done())
		}
	}
}

// TestTake is of P24.2: encodings that are written out, and such as are none.
func TestTake(t *testing.T) {
	for text, want := range written() {
		r := wire.New(text)
		if got := saga.Take(r); !equal(got, want) || !r.Done() {
			t.Errorf("Take of %x is %s; done is %t", text, short(got), r.Done())
		}
	}
	for _, text := range []string{
		"", "\x00", strings.Repeat("\x00", 10), "\x09" + strings.Repeat("\x00", 20), "\x01\x00" + strings.Repeat("\x00", 20),
		// A Ref, a Def, Lines, and Marks that are not there, or are too many.
		"\x00\x01\x28" + strings.Repeat("\x00", 19), "\x00\x01\x01" + strings.Repeat("\x00", 20), "\x00\x00\x01\x28" + strings.Repeat("\x00", 19), "\x00\x00\x00\x01\x08" + strings.Repeat("\x00", 14), "\x00\x00\x00\x01\x0a" + strings.Repeat("\x00", 20),
		"\x00\x00\x00\x01\x01" + strings.Repeat("\x00", 20), strings.Repeat("\x00", 10) + "\x01\x02", strings.Repeat("\x00", 10) + "\x01\x04\x00", strings.Repeat("\x00", 10) + "\x01\x0e" + strings.Repeat("\x00", 7),
		strings.Repeat("\x00", 10) + "\x01\x01" + strings.Repeat("\x00", 7), strings.Repeat("\x00", 10) + "\x01\x04\x00\x09",
	} {
		checkNone(t, wire.New(text), text)
	}
}

// TestTakeOfPut is of P24.2 and of P24.3: each saga that is not over a bound is there
// again, alone and with octets behind it, which stay.
func TestTakeOfPut(t *testing.T) {
	for _, s := range slices.Concat(fitting(), wide(), fits(of("as ts bs"))) {
		for _, more := range []string{"", "\x00", "\xff", "abc", "\x00\x00", strings.Repeat("\x01", 300), saga.Put(s)} {
			r := wire.New(saga.Put(s) + more)
			if got := saga.Take(r); !equal(got, s) || !saga.Same(got, s) || r.Left() != len(more) || r.Done() != (more == "") {
				t.Errorf("Take of Put is %s, and %d bytes are left, of %s", short(got), r.Left(), short(s))
			}
			checkTake(t, saga.Put(s)+more)
		}
	}
	for _, s := range over() {
		for _, more := range []string{"", "\x00", saga.Put(mixed())} {
			checkNone(t, wire.New(saga.Put(s)+more), "what is over a bound")
			checkTake(t, saga.Put(s)+more)
		}
	}
}

// TestTakeOfSeveral is of P24.2 and of P24.3: sagas behind each other, with something
// else between them.
func TestTakeOfSeveral(t *testing.T) {
	l := append(fitting(), wide()...)
	var b strings.Builder
	for i, s := range l {
		b.WriteString(wire.Int(i) + saga.Put(s) + wire.Text("ab") + wire.Flag(true) + saga.Put(s))
	}
	r := wire.New(b.String())
	for i, s := range l {
		number := r.Int(i, i)
		first, word, flag, second := saga.Take(r), r.Text(2), r.Flag(), saga.Take(r)
		if number != i || !equal(first, s) || word != "ab" || !flag || !equal(second, s) {
			t.Fatalf("row %d is %d %s %q %t %s", i, number, short(first), word, flag, short(second))
		}
	}
	if !r.Done() {
		t.Errorf("%d bytes are left behind all", r.Left())
	}
	checkNone(t, r, "what is behind all")
}

// TestTakeOfCut is of P24.2: each beginning of an encoding is none; each end of it, and
// with more behind where it was cut, is what the reference says.
func TestTakeOfCut(t *testing.T) {
	for _, s := range append(fitting(), wide()...) {
		text := saga.Put(s)
		for i := range text {
			checkNone(t, wire.New(text[:i]), "a beginning")
			checkTake(t, text[:i])
			checkTake(t, text[i:])
			checkTake(t, text[:i]+"\x01\x02a\x01\x02")
			checkTake(t, text[:i]+strings.Repeat("\x00", 20))
		}
	}
}

// TestTakeOfChanged is of P24.2: encodings of which each byte is each other, or has each
// other ahead of it, or is not there.
func TestTakeOfChanged(t *testing.T) {
	taken := 0
	for _, s := range []api.Saga{{}, mixed(), few(of("as ts bs"))[0], few(of("hs ks bp sf"))[0], {Lines: make([]api.Line, 4), Marks: make([]int, 6)}} {
		text := saga.Put(s)
		for i := range text {
			for b := range 256 {
				c := string([]byte{byte(b)})
				for _, changed := range []string{text[:i] + c + text[i+1:], text[:i] + c + text[i:], text[:i] + c + text[i+1:] + "\x00\x01\x02", text[:i] + text[i+1:], text[:i] + text[i+1:] + c} {
					if checkTake(t, changed) {
						taken++
					}
				}
			}
		}
	}
	if taken < 10000 {
		t.Errorf("only %d times there was one", taken)
	}
}

// TestTakeOfParts is of P24.2: each part of an encoding that is missing, that is there
// twice, that is exchanged with another, or that stands in place of another.
func TestTakeOfParts(t *testing.T) {
	for _, s := range []api.Saga{mixed(), few(of("hs as ks bp sf tf"))[0], {Lines: make([]api.Line, 4), Marks: make([]int, 6)}} {
		l := parts(s)
		for i := range l {
			checkTake(t, strings.Join(slices.Delete(slices.Clone(l), i, i+1), ""))
			checkTake(t, strings.Join(slices.Insert(slices.Clone(l), i, l[i]), ""))
			for j := range l {
				other := slices.Clone(l)
				other[i] = l[j]
				checkTake(t, strings.Join(other, ""))
				other[j] = l[i]
				checkTake(t, strings.Join(other, ""))
				checkTake(t, strings.Join(other, "")+strings.Repeat("\x00", 60))
			}
		}
	}
}

// TestTakeOfLonger is of P24.2: a number that is written longer than it need be, or that
// has more bytes than any, at each place.
func TestTakeOfLonger(t *testing.T) {
	for _, s := range []api.Saga{{}, few(of("as ts bs"))[0], {Id: 1, Ref: "a", Def: "x", Lines: make([]api.Line, 2), Marks: make([]int, 3)}} {
		for at, part := range parts(s) {
			size := 1 + int(part[0])
			others := []string{"\x09\x01" + strings.Repeat("\x00", 8), "\xff" + strings.Repeat("\xff", 255)}
			for zeros := 1; size+zeros <= 9; zeros++ {
				others = append(others, string(rune(size-1+zeros))+strings.Repeat("\x00", zeros)+part[1:])
			}
			for _, other := range others {
				l := parts(s)
				l[at] = other
				text := strings.Join(l, "") + strings.Repeat("\x00", 60)
				checkTake(t, text)
				checkNone(t, wire.New(text), "a number that is written longer")
			}
		}
	}
}

// TestTakeOfNumbers is of P24.2: each number at each place where one without bounds
// stands, and as the length of each name, of the lines and of the marks.
func TestTakeOfNumbers(t *testing.T) {
	s := api.Saga{Id: 1, Ref: "ab", Def: "abc", Lines: []api.Line{{Sku: "a", N: 1}}, Sum: 1, Mode: 1, Was: 1, At: 1, Tries: 1, Why: 1, Marks: []int{1, 1}}
	// The bounds of the lengths, by the parts that begin with them: Ref, Def, lines, a
	// Sku and marks.
	bounds := map[int]int{1: 48, 2: 48, 3: 4, 4: 48, 12: 6}
	for at, part := range parts(s) {
		bound, length := bounds[at]
		ahead, behind := strings.Join(parts(s)[:at], ""), strings.Join(parts(s)[at+1:], "")
		for _, n := range append(anyNumbers(), 47, 48, 49, 50) {
			want := !length || n >= 0 && n <= bound
			if got := checkTake(t, ahead+wantInt(n)+strings.Repeat("\x00", 300)); got != want {
				t.Errorf("with %d at %d: %t", n, at, got)
			}
			for left := range 60 {
				checkTake(t, ahead+wantInt(n)+strings.Repeat("\x00", left))
			}
			// What stands behind the length stays, and so does what is behind the part.
			if got := checkTake(t, ahead+wantInt(n)+part[2:]+behind); !length && !got {
				t.Errorf("with %d at %d there is none", n, at)
			}
		}
	}
}

// TestTakeOfNames is of P24.2: a Ref, a Def and a Sku of each length up to 48 bytes, and
// over that.
func TestTakeOfNames(t *testing.T) {
	for size := range 70 {
		for _, rune := range []string{"a", "\x00", "\xff"} {
			text := strings.Repeat(rune, size)
			for at := range 3 {
				s := copied(few(of("hs ks bp sf"))[0])
				*[]*string{&s.Ref, &s.Def, &s.Lines[at%2].Sku}[at] = text
				if got := checkTake(t, saga.Put(s)); got != (size <= 48) {
					t.Errorf("with a name of %d bytes at %d: %t", size, at, got)
				}
				if got := saga.Take(wire.New(saga.Put(s))); size <= 48 && !equal(got, s) {
					t.Errorf("Take of Put is %s, of %s", short(got), short(s))
				}
			}
		}
	}
}

// TestTakeOfLists is of P24.2: lines up to four and marks up to six, and more.
func TestTakeOfLists(t *testing.T) {
	for many := range 300 {
		for _, mark := range []int{0, 1, 5, -1, 1 << 40} {
			s := plain(of("as"))
			s.Marks = slices.Repeat([]int{mark}, many)
			if got := checkTake(t, saga.Put(s)); got != (many <= 6) {
				t.Errorf("with %d marks: %t", many, got)
			}
			s.Marks = []int{mark}
			s.Lines = slices.Repeat([]api.Line{{Sku: "tea", N: mark}}, many)
			if got := checkTake(t, saga.Put(s)); got != (many <= 4) {
				t.Errorf("with %d lines: %t", many, got)
			}
		}
	}
}

// TestTakeOfShort is of P24.2 and of P24.3: all short strings of some bytes; what is
// taken for a saga begins with its encoding.
func TestTakeOfShort(t *testing.T) {
	taken := 0
	var check func(text string, left int)
	check = func(text string, left int) {
		if checkTake(t, text) {
			r := wire.New(text)
			if got := saga.Put(saga.Take(r)); got != text[:len(text)-r.Left()] {
				t.Errorf("the saga at the beginning of %x is %x", text, got)
			}
			taken++
		}
		if left == 0 {
			return
		}
		for _, b := range []byte{0, 1, 2, 4, 255} {
			check(text+string([]byte{b}), left-1)
		}
	}
	check("", 5)
	for _, zeros := range []int{1, 3, 4, 7, 8, 9} {
		check(strings.Repeat("\x00", zeros), 6)
	}
	if taken < 1000 {
		t.Errorf("only %d times there was one", taken)
	}
}

// TestTakeOfBad is of P24.2: readers that are bad, from the beginning or from earlier
// on, and one of nothing.
func TestTakeOfBad(t *testing.T) {
	zero := wire.Reader{}
	checkNone(t, nil, "no reader")
	checkNone(t, &zero, "a reader that New did not return")
	checkNone(t, wire.New(""), "no octets")
	good := saga.Put(mixed())
	for what, wrong := range map[string]func(r *wire.Reader){
		"Int":   func(r *wire.Reader) { r.Int(9, 9) },
		"Flag":  func(r *wire.Reader) { r.Flag() },
		"Text":  func(r *wire.Reader) { r.Text(0) },
		"List":  func(r *wire.Reader) { r.List(0) },
		"lines": func(r *wire.Reader) { lines.Take(r) },
		"Take":  func(r *wire.Reader) { saga.Take(r) },
	} {
		// A number, 300, that is no flag, and behind it what is no string.
		r := wire.New("\x02\x02\x58\xff" + good + good)
		wrong(r)
		checkNone(t, r, "a reader that went wrong by "+what)
	}
	// One that has been read to its end is not bad, but has nothing.
	r := wire.New(good)
	if got := saga.Take(r); !equal(got, mixed()) || !r.Done() {
		t.Errorf("Take is %s; done is %t", short(got), r.Done())
	}
	checkNone(t, r, "a reader at its end")
}

// TestTakeIsNew is of P24.2: what two calls return shares no memory.
func TestTakeIsNew(t *testing.T) {
	for _, s := range []api.Saga{mixed(), few(of("hs as ks bp sf tf"))[0]} {
		text := saga.Put(s)
		r := wire.New(text + text)
		first, second := saga.Take(r), saga.Take(r)
		third := saga.Take(wire.New(text))
		clear(first.Lines[:cap(first.Lines)])
		clear(first.Marks[:cap(first.Marks)])
		if !equal(second, s) || !equal(third, s) || saga.Put(s) != text {
			t.Errorf("a change of one left %s and %s of %s", short(second), short(third), short(s))
		}
	}
}
