package step_test

import (
	"slices"
	"strconv"
	"strings"
	"testing"

	"drayman/api"
	"drayman/step"
)

// wantRead is the reference of Read: what the parts of s say, if s is the text of
// just that.
func wantRead(s string) (api.Step, api.Errno) {
	parts := append(strings.Split(s, "/"), make([]string, 6)...)
	x := api.Step{Op: slices.Index(opNames(), parts[0]) + 1, Class: slices.Index(classNames(), parts[1]) + 1}
	for i, field := range fields()[2:] {
		*field(&x), _ = strconv.Atoi(parts[i+2])
	}
	if !wantFit(x) || wantText(x) != s {
		return api.Step{}, api.ErrForm
	}
	return x, api.OK
}

// checkRead holds Read against its reference, and an accepted text against the
// text of its step.
func checkRead(t *testing.T, s string) {
	t.Helper()
	got, err := step.Read(s)
	want, wantErr := wantRead(s)
	if got != want || err != wantErr {
		t.Errorf("Read(%q) is %+v, %d, want %+v, %d", s, got, err, want, wantErr)
	}
	if err == api.OK && step.Text(got) != s {
		t.Errorf("%q is accepted, but the text of its step is %q", s, step.Text(got))
	}
}

// checkRefused holds Read of a text that is none against what is wanted.
func checkRefused(t *testing.T, s string) {
	t.Helper()
	checkRead(t, s)
	if got, err := step.Read(s); got != (api.Step{}) || err != api.ErrForm {
		t.Errorf("Read(%q) is %+v, %d", s, got, err)
	}
}

// partsOf are the parts of the text of a fit step.
func partsOf(s api.Step) []string { return strings.Split(wantText(s), "/") }

// withPart is a text in which one part is another.
func withPart(s api.Step, at int, part string) string {
	parts := partsOf(s)
	parts[at] = part
	return strings.Join(parts, "/")
}

// TestReadOfOthers is of P20.1: texts that are no step's.
func TestReadOfOthers(t *testing.T) {
	for _, s := range []string{"", " ", "/", "//", "/////", "//////", "hold", "hold/soft", "hold/firm/0/1/1/0", "0", "-", "\x00", "\xff", "\n", "1/1/0/1/1/20",
		"hold soft 0 1 1 20", "hold,soft,0,1,1,20", "hold/soft/0/1/1/20\n", "hold/soft/0/1/1/20\x00", "\x00hold/soft/0/1/1/20", "\ufeffhold/soft/0/1/1/20",
		"HOLD/SOFT/0/1/1/20", "soft/hold/0/1/1/20", "hold/soft/0/1/1/20hold/soft/0/1/1/20", "hold/soft/0/1/1/20/hold/soft/0/1/1/20", "hold/soft/0/1/1/20 ",
		"hold/soft/0/1/1/20,hold/soft/0/1/1/20", "{1 1 0 1 1 20}", "hold/soft/0x0/1/1/20", "hold/soft/0/1/1/0x14", "hold/soft/0/1/1/2_0", "hold/soft/0/1/1/2e1"} {
		checkRefused(t, s)
	}
	for _, s := range []string{strings.Repeat("/", 1<<20), strings.Repeat("hold/", 1<<16), strings.Repeat("9", 1<<20), strings.Repeat("h", 1<<20)} {
		checkRefused(t, s)
		checkRefused(t, "hold/soft/0/1/1/20"+s)
		checkRefused(t, s+"hold/soft/0/1/1/20")
		checkRefused(t, "hold/soft/0/1/1/"+s)
	}
}

// TestReadOfParts is of P20.1: a part too few or too many, an empty one, twice one,
// and two of them in each other's place.
func TestReadOfParts(t *testing.T) {
	for _, s := range few() {
		parts := partsOf(s)
		for at := range parts {
			checkRefused(t, strings.Join(slices.Delete(slices.Clone(parts), at, at+1), "/"))
			checkRefused(t, strings.Join(parts[:at], "/"))
			checkRefused(t, withPart(s, at, ""))
			checkRefused(t, withPart(s, at, "/"))
			for _, more := range []string{"", "0", "1", "20", "hold", "soft", parts[at]} {
				checkRefused(t, strings.Join(slices.Insert(slices.Clone(parts), at, more), "/"))
				checkRefused(t, wantText(s)+"/"+more)
			}
			for other := range at {
				swapped := slices.Clone(parts)
				swapped[at], swapped[other] = swapped[other], swapped[at]
				// Numbers in each other's place may be a step all the same.
				checkRead(t, strings.Join(swapped, "/"))
				if other < 2 {
					checkRefused(t, strings.Join(swapped, "/"))
				}
			}
		}
	}
}

// TestReadOfWords is of P20.1: words that are none, in another case, with a space,
// or in the wrong place.
func TestReadOfWords(t *testing.T) {
	none := []string{"none", "x", "-", "0", "1", "2", "hol", "hold0", "holds", "sof", "softly", "back", "run", "must", "outside", "авто", "ſoft", "\x00", "\xff", "\xffhold"}
	for _, s := range few() {
		for at := range 2 {
			word := partsOf(s)[at]
			for _, other := range slices.Concat(none, []string{" " + word, word + " ", word + "\t", word + "\x00", "\n" + word, word + word, word[1:], word[:3], word[:1],
				strings.ToUpper(word), strings.ToUpper(word[:1]) + word[1:], word[:3] + strings.ToUpper(word[3:])}) {
				checkRefused(t, withPart(s, at, other))
			}
			for _, words := range [][]string{opNames(), classNames()} {
				for _, other := range words {
					checkRead(t, withPart(s, at, other))
				}
			}
		}
		for _, other := range opNames() {
			checkRefused(t, withPart(s, 1, other))
			checkRefused(t, withPart(s, 2, other))
		}
		for _, other := range classNames() {
			checkRefused(t, withPart(s, 0, other))
			checkRefused(t, withPart(s, 5, other))
		}
	}
}

// TestReadOfNumbers is of P20.1: numbers that are not written as their digits are,
// and too long ones.
func TestReadOfNumbers(t *testing.T) {
	for _, s := range few() {
		for at := 2; at < 6; at++ {
			n := partsOf(s)[at]
			for _, other := range []string{"+" + n, "-" + n, "--" + n, "0" + n, "00" + n, "000000000000000000000000000000" + n, " " + n, n + " ", n + "\n", "\t" + n, n + ".", n + ".0", n + "e0",
				n + "x", "x" + n, "0x" + n, "_" + n, n + "_", n + "-", n + ",", n + "\x00", "\x00" + n, "'" + n + "'", "x", "one", "0o1", "-0", "+0", "00", "-", "+", ".", "٣", "１", "²", "\xff",
				"18446744073709551616", "18446744073709551617", "18446744073709551620", "4294967296", "4294967297", "9223372036854775807", "9223372036854775808", "-9223372036854775808",
				"4611686018427387904", "4611686018427387905", "-4611686018427387905", "1099511627776", "340282366920938463463374607431768211457", n + "000000000000000000000000000000000000000"} {
				checkRefused(t, withPart(s, at, other))
			}
			for n := -120; n < 300; n++ {
				checkRead(t, withPart(s, at, strconv.Itoa(n)))
			}
		}
	}
}

// TestReadOfSeparators is of P20.1: another separator at each place, and one at the
// beginning or the end.
func TestReadOfSeparators(t *testing.T) {
	for _, s := range few() {
		text, parts := wantText(s), partsOf(s)
		for _, other := range []string{"", " ", ",", ":", ";", "\\", "|", "-", ".", "\n", "\t", "\x00", "//", " /", "/ ", "／", "∕", "\xaf"} {
			checkRefused(t, strings.ReplaceAll(text, "/", other))
			for at := 1; at < len(parts); at++ {
				checkRefused(t, strings.Join(parts[:at], "/")+other+strings.Join(parts[at:], "/"))
			}
		}
		for _, more := range []string{"/", " ", "\n", "\x00", "//", "/0", "0/", "x", "-", "+"} {
			checkRefused(t, more+text)
			checkRefused(t, text+more)
			checkRefused(t, more+text+more)
		}
	}
}

// TestReadOfUnfit is of P20.1: texts whose words and numbers would be a step that
// is not fit.
func TestReadOfUnfit(t *testing.T) {
	refused := 0
	for _, s := range unfit() {
		if s.Op < 1 || s.Op > 6 || s.Class < 1 || s.Class > 3 {
			continue
		}
		refused++
		checkRefused(t, opNames()[s.Op-1]+"/"+classNames()[s.Class-1]+"/"+strconv.Itoa(s.Tries)+"/"+strconv.Itoa(s.Base)+"/"+strconv.Itoa(s.Cap)+"/"+strconv.Itoa(s.Wait))
	}
	if refused < 5000 {
		t.Errorf("refused are %d", refused)
	}
	for _, s := range []string{"hold/pivot/0/1/1/20", "keep/pivot/0/1/1/20", "keep/firm/0/1/1/0", "send/soft/0/1/1/20", "send/soft/0/1/1/0", "auth/firm/0/1/1/1", "book/firm/0/1/1/100",
		"send/firm/0/1/1/1", "take/firm/0/1/1/2", "hold/soft/6/1/1/20", "hold/soft/-1/1/1/20", "hold/soft/0/0/1/20", "hold/soft/0/0/0/20", "hold/soft/0/2/1/20", "hold/soft/0/1/33/20",
		"hold/soft/0/33/33/20", "hold/soft/0/1/1/101", "hold/soft/0/1/1/-1"} {
		checkRefused(t, s)
	}
}

// TestReadOfEach is of P20.1 and of P20.2: each word with each, and numbers about
// the edges.
func TestReadOfEach(t *testing.T) {
	accepted := 0
	for _, o := range append(opNames(), "") {
		for _, c := range append(classNames(), "") {
			for tries := -1; tries < 8; tries++ {
				for _, base := range []int{-1, 0, 1, 2, 31, 32, 33} {
					for _, limit := range []int{-1, 0, 1, 2, 31, 32, 33} {
						for _, wait := range []int{-1, 0, 1, 99, 100, 101} {
							s := o + "/" + c + "/" + strconv.Itoa(tries) + "/" + strconv.Itoa(base) + "/" + strconv.Itoa(limit) + "/" + strconv.Itoa(wait)
							checkRead(t, s)
							if _, err := step.Read(s); err == api.OK {
								accepted++
							}
						}
					}
				}
			}
		}
	}
	if accepted != (9*4+4)*6*10 {
		t.Errorf("accepted are %d", accepted)
	}
}

// TestReadOfEachOctet is of P20.1 and of P20.2: each octet put at each place, in
// place of one, and one taken away.
func TestReadOfEachOctet(t *testing.T) {
	for _, s := range []string{"hold/soft/0/1/1/20", "auth/firm/5/1/32/0", "send/pivot/2/9/10/100", "take/soft/1/2/3/4"} {
		for at := range len(s) + 1 {
			for octet := range 256 {
				one := string([]byte{byte(octet)})
				checkRead(t, s[:at]+one+s[at:])
				if at < len(s) {
					checkRead(t, s[:at]+one+s[at+1:])
				}
			}
			for end := at + 1; end <= len(s); end++ {
				checkRead(t, s[:at]+s[end:])
			}
		}
	}
}

// TestExamples is of P20.1: the chapter's examples.
func TestExamples(t *testing.T) {
	s := api.Step{Op: api.OpHold, Class: api.Soft, Tries: 0, Base: 1, Cap: 1, Wait: 20}
	if got := step.Text(s); got != "hold/soft/0/1/1/20" {
		t.Errorf("Text is %q", got)
	}
	if got, err := step.Read("hold/firm/0/1/1/0"); got != (api.Step{}) || err != api.ErrForm {
		t.Errorf("Read is %+v, %d", got, err)
	}
}
