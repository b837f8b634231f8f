package key_test

import (
	"math"
	"slices"
	"strconv"
	"strings"
	"testing"

	"drayman/api"
	"drayman/key"
)

// wantText is the reference of Text.
func wantText(k key.Key) string {
	if !wantFit(k) {
		return ""
	}
	s := strings.Join([]string{strconv.FormatInt(int64(k.Saga), 10), string(rune('0' + k.Step))}, ".")
	if k.Back {
		s += "-"
	}
	return s
}

// wantRead is the reference of Read: what the numbers of s say, if s is the text of
// just that.
func wantRead(s string) (key.Key, api.Errno) {
	back := s != "" && s[len(s)-1] == '-'
	at := strings.LastIndexByte(s, '.')
	if at < 0 || at+1 == len(s) {
		return key.Key{}, api.ErrForm
	}
	saga, _ := strconv.Atoi(s[:at])
	k := of(saga, int(s[at+1])-'0', back)
	if !wantFit(k) || wantText(k) != s {
		return key.Key{}, api.ErrForm
	}
	return k, api.OK
}

// checkText holds Text of a key against its reference, and, of a fit one, what Read
// makes of it against the key.
func checkText(t *testing.T, k key.Key) {
	t.Helper()
	s := key.Text(k)
	if s != wantText(k) {
		t.Errorf("Text(%+v) is %q, want %q", k, s, wantText(k))
	}
	if !wantFit(k) {
		return
	}
	if got, err := key.Read(s); got != k || err != api.OK {
		t.Errorf("Read(%q) is %+v, %d, want %+v", s, got, err, k)
	}
}

// checkRead holds Read against its reference, and an accepted text against the text
// of its key.
func checkRead(t *testing.T, s string) {
	t.Helper()
	got, err := key.Read(s)
	want, wantErr := wantRead(s)
	if got != want || err != wantErr {
		t.Errorf("Read(%q) is %+v, %d, want %+v, %d", s, got, err, want, wantErr)
	}
	if err == api.OK && key.Text(got) != s {
		t.Errorf("%q is accepted, but the text of its key is %q", s, key.Text(got))
	}
}

// checkRefused holds Read of a text that is none against what is wanted.
func checkRefused(t *testing.T, s string) {
	t.Helper()
	checkRead(t, s)
	if got, err := key.Read(s); got != (key.Key{}) || err != api.ErrForm {
		t.Errorf("Read(%q) is %+v, %d", s, got, err)
	}
}

// TestText is of P22.1 and P22.2: the texts of fit keys, and the keys that Read
// makes of them.
func TestText(t *testing.T) {
	for _, k := range append(good(), few()...) {
		checkText(t, k)
	}
	for saga := 1; saga < 4096; saga++ {
		for step := range maxSteps {
			checkText(t, of(saga, step, true))
			checkText(t, of(saga, step, false))
			checkText(t, of(most+1-saga, step, false))
		}
	}
}

// TestTextWrittenOut is of P22.1 and P22.2: keys of each kind, and their texts.
func TestTextWrittenOut(t *testing.T) {
	for s, k := range map[string]key.Key{
		"1.0":              of(1, 0, false),
		"1.0-":             of(1, 0, true),
		"1.5":              of(1, 5, false),
		"1.5-":             of(1, 5, true),
		"2.1":              of(2, 1, false),
		"3.1-":             of(3, 1, true),
		"9.2":              of(9, 2, false),
		"10.3-":            of(10, 3, true),
		"100.4":            of(100, 4, false),
		"4294967296.0":     of(1<<32, 0, false),
		"4294967297.1-":    of(1<<32+1, 1, true),
		"1099511627775.5":  of(most-1, 5, false),
		"1099511627776.0":  of(most, 0, false),
		"1099511627776.0-": of(most, 0, true),
		"1099511627776.5":  of(most, 5, false),
		"1099511627776.5-": of(most, 5, true),
	} {
		if got := key.Text(k); got != s {
			t.Errorf("Text(%+v) is %q, want %q", k, got, s)
		}
		if got, err := key.Read(s); got != k || err != api.OK {
			t.Errorf("Read(%q) is %+v, %d, want %+v", s, got, err, k)
		}
	}
}

// TestTextOfUnfit is of P22.1: keys that are not fit have no text.
func TestTextOfUnfit(t *testing.T) {
	for _, k := range unfit() {
		if got := key.Text(k); got != "" {
			t.Errorf("Text(%+v) is %q", k, got)
		}
	}
}

// TestTextTellsApart is of P22.2: no two fit keys have the same text.
func TestTextTellsApart(t *testing.T) {
	of := map[string]key.Key{}
	for _, k := range good() {
		s := key.Text(k)
		if other, is := of[s]; is && other != k {
			t.Errorf("%+v and %+v both have the text %q", other, k, s)
		}
		of[s] = k
	}
}

// TestReadOfOthers is of P22.1: texts that are no key's.
func TestReadOfOthers(t *testing.T) {
	for _, s := range []string{"", " ", ".", "..", "...", "-", "--", ".-", "-.", "-.-", ".-.", "0", "1", "3", "1-", "31", "31-", "x", "\x00", "\xff", "\n", "\xff.\xff", "x.y", "x.y-",
		"3,1", "3:1", "3/1", "3 1", "3-1", "3-1-", "3;1", "3_1", "3·1", "3。1", "3．1", "3.1 ", " 3.1", "3. 1", "3 .1", "3.1\n", "\n3.1", "3.1\x00", "\x003.1", "\ufeff3.1", "3.1\ufeff",
		"3.1 -", "3.1- ", "3.1-\n", "3.1-\x00", "3.1−", "3.1–", "3.1_", "3.1~", "3.1+", "3.1b", "3.1back", "3.1 back", "3.1true", "3.1.true", "saga 3 step 1", "{3 1 true}", "3.1-3.1-", "3.13.1",
		"3.1,3.1", "3.1 3.1", "1e1.1", "1_0.1", "0x3.1", "0x3.0x1", "3.0x1", "0b1.1", "0o1.1", "3.1e0", "٣.١", "３.１", "³.¹", "3.¹", "3.１", "III.I", "three.one"} {
		checkRefused(t, s)
	}
	for _, s := range []string{strings.Repeat(".", 1<<20), strings.Repeat("-", 1<<20), strings.Repeat("3.1", 1<<18), strings.Repeat("9", 1<<20), strings.Repeat("0", 1<<20), strings.Repeat("x", 1<<20)} {
		checkRefused(t, s)
		checkRefused(t, "3.1"+s)
		checkRefused(t, "3.1-"+s)
		checkRefused(t, s+"3.1")
		checkRefused(t, s+".1")
		checkRefused(t, s+".1-")
		checkRefused(t, "3."+s)
		checkRefused(t, "3."+s+"-")
		checkRefused(t, "3"+s+"1-")
	}
}

// TestReadOfParts is of P22.1: texts without a number, without the dot, with more
// dots than one, and with numbers in each other's place.
func TestReadOfParts(t *testing.T) {
	for _, k := range append(few(), good()...) {
		saga, step, tail := strconv.Itoa(k.Saga), strconv.Itoa(k.Step), ""
		if k.Back {
			tail = "-"
		}
		for _, s := range []string{saga + step, saga, step, saga + ".", "." + step, ".", "", saga + ".." + step, "." + saga + "." + step, saga + "." + step + ".", saga + "." + step + "." + step,
			saga + "." + saga + "." + step, "." + saga, step + ".", "." + saga + step, saga + step + ".", saga + "." + step + "..", ".." + saga + "." + step, "0." + saga + "." + step} {
			// What is left may be the text of a key all the same.
			checkRead(t, s+tail)
			if strings.Count(s, ".") != 1 || s[0] == '.' || s[len(s)-1] == '.' {
				checkRefused(t, s+tail)
			}
		}
		checkRead(t, step+"."+saga+tail)
	}
}

// TestReadOfMarks is of P22.1: "-" that is there twice, at the beginning, in the
// midst, or with something behind.
func TestReadOfMarks(t *testing.T) {
	for _, k := range append(few(), good()...) {
		saga, step := strconv.Itoa(k.Saga), strconv.Itoa(k.Step)
		for _, tail := range []string{"", "-"} {
			for _, s := range []string{"-" + saga + "." + step, saga + "-." + step, saga + ".-" + step, "-" + saga + "-." + step, "-" + saga + ".-" + step, saga + "-.-" + step, "--" + saga + "." + step,
				saga + "--." + step, saga + ".--" + step, saga + "-" + step, saga + "." + step + "-" + step, saga + "." + step + "-.", saga + "." + step + "-0", saga + "." + step + "-x",
				saga + "." + step + "- ", saga + "." + step + "-\x00", saga + "." + step + "-\xff"} {
				checkRefused(t, s+tail)
			}
			for _, more := range []string{"-", "--", "---"} {
				checkRefused(t, saga+"."+step+"-"+tail+more)
			}
		}
		if len(saga) > 1 {
			checkRefused(t, saga[:1]+"-"+saga[1:]+"."+step)
		}
	}
}

// TestReadOfNumbers is of P22.1: numbers that are not written as their digits are,
// and too long ones, at each place.
func TestReadOfNumbers(t *testing.T) {
	for _, k := range few() {
		saga, step, tail := strconv.Itoa(k.Saga), strconv.Itoa(k.Step), strings.TrimLeft(wantText(k), ".0123456789")
		for at, n := range []string{saga, step} {
			for _, other := range []string{"+" + n, "-" + n, "--" + n, "0" + n, "00" + n, "000000000000000000000000000000" + n, " " + n, n + " ", n + "\n", "\t" + n, n + ".0", n + "e0",
				n + "x", "x" + n, "0x" + n, "_" + n, n + "_", n + ",", n + "\x00", "\x00" + n, "'" + n + "'", "x", "one", "0o1", "-0", "+0", "00", "-", "+", "", "٣", "１", "²", "\xff", "\u0661",
				"18446744073709551616", "18446744073709551617", "18446744073709551619", "9223372036854775807", "9223372036854775808", "-9223372036854775808", "-18446744073709551615",
				"4611686018427387904", "4611686018427387905", "-4611686018427387905", "1099511627777", "2199023255553", "340282366920938463463374607431768211457",
				n + "000000000000000000000000000000000000000"} {
				parts := []string{saga, step}
				parts[at] = other
				checkRefused(t, strings.Join(parts, ".")+tail)
			}
		}
		for _, n := range append(badSagas(), goodSagas()...) {
			checkRead(t, strconv.Itoa(n)+"."+step+tail)
			checkRead(t, strconv.Itoa(n)+"."+step)
		}
		for _, n := range badSagas() {
			checkRefused(t, strconv.Itoa(n)+"."+step+tail)
		}
		for _, n := range badSteps() {
			checkRefused(t, saga+"."+strconv.Itoa(n)+tail)
		}
		for n := -300; n < 3000; n++ {
			checkRead(t, saga+"."+strconv.Itoa(n)+tail)
			checkRead(t, strconv.Itoa(n)+"."+step+tail)
		}
	}
}

// TestReadAtEdges is of P22.1: the edges of Saga and Step, written out.
func TestReadAtEdges(t *testing.T) {
	for _, s := range []string{"0.0", "0.1-", "0.5", "1099511627777.0", "1099511627777.5-", "1.6", "1.6-", "1.7", "1.10", "1.00", "1.01", "1.05", "1.50", "01.0", "00.0", "00.1", "1099511627776.6",
		"-1.0", "1.-1", "1.-0", "-1099511627776.0", "1.-5-", "4611686018427387904.0", "4611686018427387905.0", "1.4611686018427387904", "9223372036854775808.0", "18446744073709551617.0",
		"1.18446744073709551616", "1.4294967296", "1.4294967297", "1.256", "3.06", "3.06-", "03.6", "3.+1", "+3.1", "3.1-1", "3.1--"} {
		checkRefused(t, s)
	}
}

// TestReadOfEachOctet is of P22.1 and P22.2: texts in which one octet is another,
// is missing, is there twice, or has another ahead of it.
func TestReadOfEachOctet(t *testing.T) {
	for _, k := range few() {
		s := wantText(k)
		for at := range len(s) + 1 {
			for b := range 256 {
				more := s[:at] + string([]byte{byte(b)}) + s[at:]
				checkRead(t, more)
				if at < len(s) {
					checkRead(t, s[:at]+string([]byte{byte(b)})+s[at+1:])
				}
				if !strings.Contains("0123456789-", more[at:at+1]) {
					checkRefused(t, more)
				}
			}
			checkRead(t, s[:at])
			checkRead(t, s[at:])
			checkRead(t, s[:at]+s)
			if at < len(s) {
				checkRead(t, s[:at]+s[at+1:])
			}
		}
	}
}

// TestReadOfShort is of P22.1 and P22.2: every text of up to six of the letters of
// which texts are made.
func TestReadOfShort(t *testing.T) {
	letters := []string{"0", "1", "5", "6", ".", "-", "+", " "}
	accepted, all := 0, 0
	texts := []string{""}
	for range 6 {
		var longer []string
		for _, s := range texts {
			for _, c := range letters {
				longer = append(longer, s+c)
			}
		}
		texts = longer
		for _, s := range texts {
			checkRead(t, s)
			all++
			if _, err := key.Read(s); err == api.OK {
				accepted++
			}
		}
	}
	// Sagas of one to four digits that do not begin with 0, with one of three Steps;
	// those of four digits leave no room for Back.
	if all != 8+64+512+4096+32768+262144 || accepted != 3*3*(2*(1+4+16)+64) {
		t.Errorf("of %d are accepted %d", all, accepted)
	}
}

// TestReadOfList is of P22.2: a list of keys, written and read, is the same list.
func TestReadOfList(t *testing.T) {
	var texts []string
	for _, k := range good() {
		texts = append(texts, key.Text(k))
	}
	var keys []key.Key
	for _, s := range strings.Fields(strings.Join(texts, "\n")) {
		k, err := key.Read(s)
		if err != api.OK {
			t.Errorf("Read(%q) is %d", s, err)
		}
		keys = append(keys, k)
	}
	if !slices.Equal(keys, good()) {
		t.Errorf("of %d keys %d came back, or others", len(good()), len(keys))
	}
}

// TestTextOfFar is of P22.1: numbers that would be in their range if they lost their
// upper bits have no text.
func TestTextOfFar(t *testing.T) {
	for shift := range 63 {
		for step := range maxSteps {
			n := math.MinInt + 1<<shift
			for _, k := range []key.Key{of(n, step, false), of(1, n+step, true), of(3, step+8<<shift, false)} {
				checkText(t, k)
				checkFit(t, k, wantFit(k))
			}
		}
	}
}
