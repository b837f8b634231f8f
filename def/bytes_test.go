package def_test

import (
	"math"
	"math/big"
	"slices"
	"strings"
	"testing"

	"drayman/api"
	"drayman/def"
	"drayman/wire"
)

// wantInt is the encoding of a number, as chapter 3 defines it.
func wantInt(n int) string {
	x := big.NewInt(int64(n))
	x.Lsh(x, 1)
	if n < 0 {
		x.Not(x)
	}
	return string(rune(len(x.Bytes()))) + string(x.Bytes())
}

// wantPut is the encoding of a definition.
func wantPut(d api.Def) string {
	var s strings.Builder
	s.WriteString(wantInt(len(d.Name)) + d.Name + wantInt(len(d.Steps)))
	for _, x := range d.Steps {
		for _, field := range fields() {
			s.WriteString(wantInt(*field(&x)))
		}
	}
	return s.String()
}

// cutInt reads a number from the beginning of s: the number, and what is behind.
func cutInt(s string) (n int, rest string, is bool) {
	if s == "" || s[0] > 8 || len(s) <= int(s[0]) || s[0] > 0 && s[1] == 0 {
		return 0, "", false
	}
	size := 1 + int(s[0])
	x := new(big.Int).SetBytes([]byte(s[1:size]))
	odd := x.Bit(0) == 1
	x.Rsh(x, 1)
	if odd {
		x.Not(x)
	}
	return int(x.Int64()), s[size:], true
}

// wantTake is the reference of Take: what is read from the beginning of s, and
// what is behind it.
func wantTake(s string) (d api.Def, rest string, is bool) {
	size, s, is := cutInt(s)
	if !is || size < 0 || size > 48 || size > len(s) {
		return api.Def{}, "", false
	}
	d.Name = s[:size]
	many, s, is := cutInt(s[size:])
	if !is || many < 0 || many > 6 || many > len(s) {
		return api.Def{}, "", false
	}
	for range many {
		var x api.Step
		for _, field := range fields() {
			if *field(&x), s, is = cutInt(s); !is {
				return api.Def{}, "", false
			}
		}
		d.Steps = append(d.Steps, x)
	}
	return d, s, true
}

// checkPut holds Put against what is wanted.
func checkPut(t *testing.T, d api.Def, want string) {
	t.Helper()
	if got := def.Put(d); got != want {
		t.Errorf("Put is %.300x, want %.300x, of %.300v", got, want, d)
	}
}

// checkTake holds what Take answers of s against the reference: the definition,
// and where the reader stands behind it. It reports whether there was one.
func checkTake(t *testing.T, s string) bool {
	t.Helper()
	want, rest, is := wantTake(s)
	r := wire.New(s)
	got := def.Take(r)
	if got.Name != want.Name || !slices.Equal(got.Steps, want.Steps) {
		t.Fatalf("Take of %.300x is %.300v, want %.300v", s, got, want)
	}
	if !is && got.Steps != nil {
		t.Fatalf("Take of %.300x has no nil Steps", s)
	}
	if r.Left() != len(rest) || r.Done() != (is && rest == "") {
		t.Fatalf("behind Take of %.300x there are %d bytes left, want %d; done is %t", s, r.Left(), len(rest), r.Done())
	}
	return is
}

// wide are definitions with any numbers in their steps: no Steps, and up to seven.
func wide() []api.Def {
	l := []api.Def{{}, {Name: "x"}, {Name: "\xff", Steps: []api.Step{{}}}, {Steps: make([]api.Step, 6)}, {Name: strings.Repeat("\x00", 48), Steps: make([]api.Step, 2)}}
	for i, n := range append(far(), 0, 1, 2, 63, 64, 127, 128, 129, 1<<15, 1<<16, 1<<40, 1<<55, 1<<56, 1<<61, -64, -65, -128, -1<<15, -1<<40, -1<<55) {
		s := api.Step{Op: n, Class: n + 1, Tries: n + 2, Base: n + 3, Cap: n + 4, Wait: n + 5}
		l = append(l, api.Def{Name: "x", Steps: []api.Step{s}}, api.Def{Name: "y", Steps: slices.Repeat([]api.Step{s, {Op: n}}, i%3+1)})
		for at, field := range fields() {
			l = append(l, change(of("hs as ks bp sf tf"), at, field, n), change(of("bs"), 0, field, n))
		}
	}
	return l
}

// TestPut is of P21.2: encodings that are written out.
func TestPut(t *testing.T) {
	checkPut(t, api.Def{}, "\x00\x00")
	checkPut(t, api.Def{Steps: []api.Step{}}, "\x00\x00")
	checkPut(t, api.Def{Name: "x"}, "\x01\x02x\x00")
	checkPut(t, api.Def{Name: "ä "}, "\x01\x06\xc3\xa4 \x00")
	checkPut(t, api.Def{Steps: []api.Step{{}}}, "\x00\x01\x02\x00\x00\x00\x00\x00\x00")
	checkPut(t, api.Def{Name: "tea", Steps: []api.Step{{Op: 1, Class: 2, Tries: 3, Base: 4, Cap: 5, Wait: 6}}}, "\x01\x06tea\x01\x02\x01\x02\x01\x04\x01\x06\x01\x08\x01\x0a\x01\x0c")
	checkPut(t, api.Def{Name: "x", Steps: []api.Step{{Op: 2, Class: 1, Tries: 5, Base: 1, Cap: 32, Wait: 100}, {Op: 6, Class: 3, Base: 9, Cap: 10}}},
		"\x01\x02x\x01\x04\x01\x04\x01\x02\x01\x0a\x01\x02\x01\x40\x01\xc8\x01\x0c\x01\x06\x00\x01\x12\x01\x14\x00")
	checkPut(t, api.Def{Name: "\xff", Steps: []api.Step{{Op: -1, Class: -2, Tries: math.MaxInt, Base: math.MinInt, Cap: 128, Wait: 1 << 20}}},
		"\x01\x02\xff\x01\x02\x01\x01\x01\x03\x08\xff\xff\xff\xff\xff\xff\xff\xfe\x08\xff\xff\xff\xff\xff\xff\xff\xff\x02\x01\x00\x03\x20\x00\x00")
	checkPut(t, api.Def{Name: "x", Steps: make([]api.Step, 7)}, "\x01\x02x\x01\x0e"+strings.Repeat("\x00", 42))
}

// TestPutOfAny is of P21.2: definitions that are fit, and such as are not, with no
// Steps, with more than six, and with long Names.
func TestPutOfAny(t *testing.T) {
	for _, d := range slices.Concat(fits(), unfit(), wide()) {
		checkPut(t, d, wantPut(d))
	}
	for _, many := range []int{5, 6, 7, 8, 63, 64, 127, 128, 255, 256, 1 << 15, 1 << 16} {
		d := api.Def{Name: strings.Repeat("a", many), Steps: slices.Repeat(stepped("tf"), many)}
		checkPut(t, d, wantPut(d))
	}
}

// TestTake is of P21.2: encodings that are written out.
func TestTake(t *testing.T) {
	for s, want := range map[string]api.Def{
		"\x00\x00":                                  {},
		"\x01\x02x\x00":                             {Name: "x"},
		"\x00\x01\x02\x00\x00\x00\x00\x00\x00":      {Steps: []api.Step{{}}},
		"\x00\x01\x0c" + strings.Repeat("\x00", 36): {Steps: make([]api.Step, 6)},
		"\x01\x06tea\x01\x02\x01\x02\x01\x04\x01\x06\x01\x08\x01\x0a\x01\x0c": {Name: "tea", Steps: []api.Step{{Op: 1, Class: 2, Tries: 3, Base: 4, Cap: 5, Wait: 6}}},
		"\x01\x02\xff\x01\x02\x01\x01\x01\x03\x08\xff\xff\xff\xff\xff\xff\xff\xfe\x08\xff\xff\xff\xff\xff\xff\xff\xff\x02\x01\x00\x03\x20\x00\x00": {
			Name: "\xff", Steps: []api.Step{{Op: -1, Class: -2, Tries: math.MaxInt, Base: math.MinInt, Cap: 128, Wait: 1 << 20}}},
	} {
		r := wire.New(s)
		if got := def.Take(r); got.Name != want.Name || !slices.Equal(got.Steps, want.Steps) || !r.Done() {
			t.Errorf("Take of %x is %v; done is %t", s, got, r.Done())
		}
	}
	for _, s := range []string{"", "\x00", "\x01", "\x01\x02", "\x01\x02x", "\x01\x02x\x01", "\x01\x02x\x01\x02", "\x00\x01\x0e" + strings.Repeat("\x00", 42), "\x00\x01\x01" + strings.Repeat("\x00", 42), "\x01\x01\x00",
		"\x00\x01\x02\x00\x00\x00\x00\x00", "\x00\x01\x02\x00\x00\x00\x00\x00\x09", "\x00\x01\x02\x01\x00\x00\x00\x00\x00\x00", "\x09\x00", "\x00\x09"} {
		r := wire.New(s)
		if got := def.Take(r); got.Name != "" || got.Steps != nil || r.Left() != 0 || r.Done() {
			t.Errorf("Take of %x is %v; done is %t", s, got, r.Done())
		}
	}
}

// TestTakeOfPut is of P21.2 and of P21.4: definitions with up to six Steps are there
// again, alone and with octets behind them, which stay.
func TestTakeOfPut(t *testing.T) {
	for _, d := range slices.Concat(fits(), unfit(), wide()) {
		for _, more := range []string{"", "\x00", "\xff", "abc", "\x00\x00", def.Put(d)} {
			checkTake(t, def.Put(d)+more)
			r := wire.New(def.Put(d) + more)
			got := def.Take(r)
			if len(d.Name) > 48 || len(d.Steps) > 6 {
				if got.Name != "" || got.Steps != nil || r.Left() != 0 || r.Done() {
					t.Errorf("Take of Put is %.300v, of %.300v", got, d)
				}
				continue
			}
			if got.Name != d.Name || !slices.Equal(got.Steps, d.Steps) || r.Left() != len(more) || r.Done() != (more == "") {
				t.Errorf("Take of Put is %.300v, and %d bytes are left; of %.300v", got, r.Left(), d)
			}
		}
	}
}

// TestTakeOfSeveral is of P21.2 and of P21.4: several definitions behind each other,
// and a number between them.
func TestTakeOfSeveral(t *testing.T) {
	l := append(fits(), wide()...)
	s := ""
	for i, d := range l {
		s += def.Put(d) + wire.Int(i)
	}
	r := wire.New(s)
	var taken []api.Def
	for i := range l {
		taken = append(taken, def.Take(r))
		if got := r.Int(i, i); got != i {
			t.Fatalf("behind definition %d there is %d", i, got)
		}
	}
	if !r.Done() {
		t.Errorf("%d bytes are left behind all", r.Left())
	}
	for i, d := range l {
		if taken[i].Name != d.Name || !slices.Equal(taken[i].Steps, d.Steps) {
			t.Errorf("definition %d is %v, want %v", i, taken[i], d)
		}
		// Nothing of one is another's.
		clear(taken[i].Steps[:cap(taken[i].Steps)])
	}
	if got := def.Take(r); got.Name != "" || got.Steps != nil || r.Done() {
		t.Errorf("Take behind all is %v", got)
	}
}

// TestTakeOfCut is of P21.2: each beginning of an encoding, each end of it, and with
// more behind where it was cut.
func TestTakeOfCut(t *testing.T) {
	for _, d := range slices.Concat(fits(), wide()) {
		s := def.Put(d)
		for i := range s {
			r := wire.New(s[:i])
			if got := def.Take(r); got.Name != "" || got.Steps != nil || r.Done() || r.Left() != 0 {
				t.Errorf("Take of %d bytes of %x is %v; done is %t", i, s, got, r.Done())
			}
			checkTake(t, s[i:])
			checkTake(t, s[:i]+"\x01\x02a\x01\x02")
			checkTake(t, s[:i]+strings.Repeat("\x00", 40))
		}
	}
}

// TestTakeOfLength is of P21.2: each number as the number of Steps, and as the
// length of a Name, with bytes enough and too few.
func TestTakeOfLength(t *testing.T) {
	for _, n := range append(far(), -2, 0, 1, 2, 3, 4, 5, 6, 7, 8, 9, 12, 13, 16, 32, 47, 48, 49, 50, 64, 127, 128) {
		for _, left := range []int{0, 1, 2, 5, 6, 7, 11, 12, 29, 30, 31, 35, 36, 37, 41, 42, 43, 47, 48, 49, 50, 51, 300, 2000} {
			for _, name := range []string{"", "x", strings.Repeat("a", 48)} {
				steps := checkTake(t, wantInt(len(name))+name+wantInt(n)+strings.Repeat("\x00", left))
				if want := n >= 0 && n <= 6 && left >= 6*n; steps != want {
					t.Errorf("%d steps with %d bytes: %t", n, left, steps)
				}
			}
			name := checkTake(t, wantInt(n)+strings.Repeat("\x00", left))
			if want := n >= 0 && n <= 48 && left > n; name != want {
				t.Errorf("a Name of %d bytes with %d bytes: %t", n, left, name)
			}
		}
	}
	for many := range 300 {
		d := api.Def{Name: "x", Steps: slices.Repeat(stepped("ts"), many)}
		if got := checkTake(t, wantPut(d)); got != (many <= 6) {
			t.Errorf("%d steps: %t", many, got)
		}
	}
}

// TestTakeOfLongName is of P21.2: a Name of 4 * MaxName bytes, and one more.
func TestTakeOfLongName(t *testing.T) {
	for name, want := range map[string]bool{
		strings.Repeat("a", 47): true, strings.Repeat("a", 48): true, strings.Repeat("ä", 24): true, strings.Repeat("𝔞", 12): true, strings.Repeat("\x00", 48): true, strings.Repeat("\xff", 48): true,
		strings.Repeat("a", 49): false, strings.Repeat("a", 50): false, strings.Repeat("ä", 25): false, strings.Repeat("𝔞", 13): false, strings.Repeat("a", 1<<16): false,
	} {
		for _, form := range append(some(), "", "hs") {
			if got := checkTake(t, def.Put(called(name, of(form)))); got != want {
				t.Errorf("a Name of %d bytes with %q: %t", len(name), form, got)
			}
		}
	}
}

// TestTakeOfChanged is of P21.2: encodings of which each byte is each other.
func TestTakeOfChanged(t *testing.T) {
	taken := 0
	for _, d := range []api.Def{of("as"), of("ap tf"), called("ä", of("hs ks sp")), called("", of("")), {Name: "x", Steps: []api.Step{{Op: math.MinInt, Class: math.MaxInt, Tries: -1, Base: 128}}}} {
		s := def.Put(d)
		for i := range s {
			for b := range 256 {
				c := string([]byte{byte(b)})
				for _, changed := range []string{s[:i] + c + s[i+1:], s[:i] + c + s[i:], s[:i] + c + s[i+1:] + "\x00\x01\x02"} {
					if checkTake(t, changed) {
						taken++
					}
				}
			}
		}
	}
	if taken < 1000 {
		t.Errorf("only %d definitions were taken", taken)
	}
}

// TestTakeOfShort is of P21.2 and of P21.4: all short strings of some bytes; each
// that begins with a definition begins with its encoding.
func TestTakeOfShort(t *testing.T) {
	taken := 0
	var check func(s string, left int)
	check = func(s string, left int) {
		if checkTake(t, s) {
			r := wire.New(s)
			d := def.Take(r)
			checkPut(t, d, s[:len(s)-r.Left()])
			taken++
		}
		if left == 0 {
			return
		}
		for _, b := range []byte{0, 1, 2, 3, 12, 'a', 255} {
			check(s+string([]byte{b}), left-1)
		}
	}
	check("", 5)
	check("\x01\x02a\x01\x02\x00", 5)
	check("\x00\x01\x04\x00\x00\x00\x00\x00\x00\x00\x00", 4)
	if taken < 400 {
		t.Errorf("only %d definitions were taken", taken)
	}
}

// TestTakeOfBad is of P21.2: readers that are bad, from the beginning or from
// earlier on, or by a Take.
func TestTakeOfBad(t *testing.T) {
	zero := wire.Reader{}
	for _, r := range []*wire.Reader{nil, &zero} {
		if got := def.Take(r); got.Name != "" || got.Steps != nil {
			t.Errorf("Take of a reader that New did not return is %v", got)
		}
	}
	good := def.Put(of("hs as ks bp sf tf"))
	for what, wrong := range map[string]func(r *wire.Reader){
		"Int":  func(r *wire.Reader) { r.Int(9, 9) },
		"Flag": func(r *wire.Reader) { r.Flag(); r.Flag() },
		"Text": func(r *wire.Reader) { r.Text(0) },
		"List": func(r *wire.Reader) { r.List(0) },
		"Take": func(r *wire.Reader) { r.Int(1, 1); def.Take(r) },
	} {
		r := wire.New(good + good)
		wrong(r)
		for range 3 {
			if got := def.Take(r); got.Name != "" || got.Steps != nil || r.Done() || r.Left() != 0 {
				t.Errorf("Take of a reader that went wrong by %s is %v", what, got)
			}
		}
	}
	r := wire.New("")
	if got := def.Take(r); got.Name != "" || got.Steps != nil || r.Done() {
		t.Errorf("Take of nothing is %v; done is %t", got, r.Done())
	}
}
