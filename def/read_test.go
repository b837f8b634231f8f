package def_test

import (
	"slices"
	"strconv"
	"strings"
	"testing"

	"drayman/api"
	"drayman/def"
)

// wantRead is the reference of Read: what the parts of s say, if s is the text of
// just that.
func wantRead(s string) (api.Def, api.Errno) {
	words := append(strings.Split(s, " "), "")
	d := api.Def{Name: words[0]}
	for _, text := range strings.Split(words[1], ",") {
		parts := append(strings.Split(text, "/"), make([]string, 6)...)
		x := api.Step{Op: slices.Index(opNames(), parts[0]) + 1, Class: slices.Index(classNames(), parts[1]) + 1}
		for i, field := range fields()[2:] {
			*field(&x), _ = strconv.Atoi(parts[i+2])
		}
		d.Steps = append(d.Steps, x)
	}
	if wantText(d) != s || s == "" {
		return api.Def{}, api.ErrForm
	}
	return d, api.OK
}

// checkRead holds Read against its reference, and an accepted text against the
// text of its definition. It reports whether the text was accepted.
func checkRead(t *testing.T, s string) bool {
	t.Helper()
	got, err := def.Read(s)
	want, wantErr := wantRead(s)
	if got.Name != want.Name || !slices.Equal(got.Steps, want.Steps) || err != wantErr {
		t.Errorf("Read(%.500q) is %v, %d, want %v, %d", s, got, err, want, wantErr)
	}
	if err != api.OK && got.Steps != nil {
		t.Errorf("Read(%.500q) has no nil Steps", s)
	}
	if err == api.OK && (def.Text(got) != s || !def.Fit(got)) {
		t.Errorf("%.500q is accepted, but the text of its definition is %.500q", s, def.Text(got))
	}
	return err == api.OK
}

// checkRefused holds Read of a text that is none against what is wanted.
func checkRefused(t *testing.T, s string) {
	t.Helper()
	checkRead(t, s)
	if got, err := def.Read(s); got.Name != "" || got.Steps != nil || err != api.ErrForm {
		t.Errorf("Read(%.500q) is %v, %d", s, got, err)
	}
}

// TestRead is of P21.1 and of P21.4: texts of fit definitions of each form, with
// each name, which have the text again.
func TestRead(t *testing.T) {
	for _, d := range fits() {
		if !checkRead(t, written(d)) {
			t.Errorf("%q is not accepted", written(d))
		}
	}
}

// TestReadOfOthers is of P21.1: texts that are no definition's.
func TestReadOfOthers(t *testing.T) {
	for _, s := range []string{"", " ", "  ", ",", " ,", ", ", "x", "x ", "fulfil", " x", "x x", "x x x", "\x00", "\xff", "\n", "x ,", "x  ", "keep/soft/0/1/1/0", " keep/soft/0/1/1/0", "auth/soft/0/1/1/0",
		" auth/soft/0/1/1/0", "xauth/soft/0/1/1/0", "x keep/soft/0/1/1/0", "x auth", "x auth/soft", "x auth/soft/0/1/1", "x auth/soft/0/1/1/0/0", "auth/soft/0/1/1/0 x", "x:auth/soft/0/1/1/0",
		"x,auth/soft/0/1/1/0", "x/auth/soft/0/1/1/0", "{x [{2 1 0 1 1 0}]}", "x [auth/soft/0/1/1/0]", "x 2/1/0/1/1/0"} {
		checkRefused(t, s)
	}
	text := "x auth/soft/0/1/1/0"
	if !checkRead(t, text) {
		t.Errorf("%q is not accepted", text)
	}
	for _, s := range []string{strings.Repeat(" ", 1<<20), strings.Repeat(",", 1<<20), strings.Repeat("/", 1<<20), strings.Repeat("x", 1<<20), strings.Repeat(text, 1<<15), strings.Repeat(",take/soft/0/1/1/0", 1<<15)} {
		for _, s := range []string{s, text + s, s + text, "x" + s, "x " + s, text + "," + s, "x " + s + ",auth/soft/0/1/1/0"} {
			if _, err := def.Read(s); err != api.ErrForm {
				t.Errorf("Read of %.100q, of %d bytes, is %d", s, len(s), err)
			}
		}
	}
}

// TestReadOfSpaces is of P21.1: no space, two, and one at the beginning, the end,
// or about a comma.
func TestReadOfSpaces(t *testing.T) {
	for _, form := range some() {
		text := written(of(form))
		name, steps, _ := strings.Cut(text, " ")
		for _, s := range []string{name, steps, name + " ", " " + steps, name + steps, name + "  " + steps, " " + text, text + " ", " " + text + " ", name + " " + steps + " " + name, name + " " + name + " " + steps, text + " " + steps, text + " " + text,
			strings.ReplaceAll(text, ",", ", "), strings.ReplaceAll(text, ",", " ,"), strings.ReplaceAll(text, ",", " "), strings.ReplaceAll(text, "/", " /"), strings.ReplaceAll(text, "/", "/ ")} {
			if s != text {
				checkRefused(t, s)
			}
		}
		for _, other := range []string{"", "  ", ",", ", ", " ,", ":", ";", "/", "\t", "\n", "\x00", "-", "_", ".", "=", "\u00a0", "\u2003", "\xa0"} {
			checkRefused(t, name+other+steps)
		}
	}
}

// TestReadOfCommas is of P21.1: another separator at each place, two commas, and
// one at the beginning or the end.
func TestReadOfCommas(t *testing.T) {
	for _, form := range some() {
		text, name := written(of(form)), "x "
		parts := strings.Split(text[len(name):], ",")
		for _, s := range []string{"," + text, text + ",", "," + text + ",", ",," + text, text + ",,", name + "," + text[len(name):], name + "," + text[len(name):] + ",", name[:1] + "," + text[1:]} {
			checkRefused(t, s)
		}
		for _, other := range []string{"", ",,", " ", ";", ":", "/", ".", "\n", "\t", "|", "\x00", ", ", " ,", "，", "\xac", "+", "&"} {
			for at := 1; at < len(parts); at++ {
				checkRefused(t, name+strings.Join(parts[:at], ",")+other+strings.Join(parts[at:], ","))
			}
			if len(parts) > 1 {
				checkRefused(t, name+strings.Join(parts, other))
			}
		}
	}
}

// TestReadOfParts is of P21.1: a part away, one more, an empty one, and one that is
// no step's text, at each place.
func TestReadOfParts(t *testing.T) {
	none := []string{"", " ", "x", "0", "auth", "auth/soft", "auth/soft/0/1/1", "auth/soft/0/1/1/0/", "/auth/soft/0/1/1/0", "Auth/soft/0/1/1/0", "auth/Soft/0/1/1/0", "none/soft/0/1/1/0", "auth/none/0/1/1/0", "auth/soft/6/1/1/0",
		"auth/soft/0/0/1/0", "auth/soft/0/2/1/0", "auth/soft/0/1/33/0", "auth/soft/0/1/1/101", "auth/soft/-1/1/1/0", "auth/soft/00/1/1/0", "auth/soft/0/1/1/+0", "auth/soft/0/1/1/ 0", "auth/firm/0/1/1/1", "hold/pivot/0/1/1/0",
		"keep/firm/0/1/1/0", "send/soft/0/1/1/0", "auth/soft/4294967296/1/1/0", "auth/soft/0/1/1/18446744073709551616", "x auth/soft/0/1/1/0", "\x00", "\xff"}
	for _, form := range forms() {
		parts := strings.Split(written(of(form))[len("x "):], ",")
		for at := range parts {
			checkRead(t, "x "+strings.Join(slices.Delete(slices.Clone(parts), at, at+1), ","))
			for _, other := range none {
				changed := slices.Clone(parts)
				changed[at] = other
				checkRefused(t, "x "+strings.Join(changed, ","))
				checkRefused(t, "x "+strings.Join(slices.Insert(slices.Clone(parts), at, other), ","))
			}
			checkRefused(t, "x "+strings.Join(slices.Insert(slices.Clone(parts), at, parts[at]), ","))
		}
		for _, other := range none {
			checkRefused(t, "x "+strings.Join(append(slices.Clone(parts), other), ","))
		}
	}
}

// TestReadOfUnfit is of P21.1: texts whose parts are steps', but whose definition
// is not fit, for each reason; among them of seven steps and of more.
func TestReadOfUnfit(t *testing.T) {
	for _, list := range badForms() {
		for _, form := range list {
			for _, d := range edges(form) {
				checkRefused(t, written(d))
			}
		}
	}
	for many := range 5 {
		for _, form := range sequences(many, kinds()) {
			if got := checkRead(t, written(of(form))); got != wantForm(form) {
				t.Errorf("Read of the form %q: %t", form, got)
			}
		}
	}
	for many := 7; many < 40; many++ {
		l := slices.Repeat(stepped("hs as ks bp sf tf"), 7)
		checkRefused(t, written(api.Def{Name: "x", Steps: l[:many]}))
	}
	// A seventh part of any kind, behind the six of a fit definition.
	for _, word := range kinds() {
		checkRefused(t, written(of("hs as ks bp sf tf "+word)))
		checkRefused(t, written(of("bs as hs ts ks sp "+word)))
	}
}

// TestReadOfName is of P21.1: a Name that is none.
func TestReadOfName(t *testing.T) {
	for _, form := range forms() {
		for _, name := range badNames()[:40] {
			checkRefused(t, written(called(name, of(form))))
		}
	}
	for _, name := range badNames() {
		checkRefused(t, written(called(name, of("as ts"))))
	}
	for many := range 20 {
		for _, r := range []string{"a", "ä", "0", "ÿ"} {
			if got := checkRead(t, written(called(strings.Repeat(r, many), of("as ts")))); got != (many >= 1 && many <= 12) {
				t.Errorf("Read with a name of %d runes: %t", many, got)
			}
		}
	}
	// The Name is not folded.
	for _, text := range []string{"X auth/soft/0/1/1/0", "Fulfil auth/soft/0/1/1/0", "Ä auth/soft/0/1/1/0"} {
		checkRefused(t, text)
		if !checkRead(t, strings.ToLower(text)) {
			t.Errorf("%q is not accepted", strings.ToLower(text))
		}
	}
}

// TestReadOfEachOctet is of P21.1 and of P21.4: each octet put at each place, in
// place of one, and what is there taken away.
func TestReadOfEachOctet(t *testing.T) {
	accepted := 0
	note := func(s string) {
		if checkRead(t, s) {
			accepted++
		}
	}
	for _, s := range []string{"x auth/soft/0/1/1/20", "ä- auth/pivot/5/1/32/0,take/firm/1/2/3/0", "0 hold/soft/0/1/1/9,keep/soft/0/1/1/0,send/pivot/2/9/10/100"} {
		for at := range len(s) + 1 {
			for octet := range 256 {
				one := string([]byte{byte(octet)})
				note(s[:at] + one + s[at:])
				if at < len(s) {
					note(s[:at] + one + s[at+1:])
				}
			}
			for end := at + 1; end <= len(s); end++ {
				note(s[:at] + s[end:])
			}
		}
	}
	if accepted < 200 {
		t.Errorf("accepted are %d", accepted)
	}
}

// TestReadIsNew is of P21.1: what two calls answer shares no memory.
func TestReadIsNew(t *testing.T) {
	text := "x hold/soft/0/1/1/0,keep/soft/0/1/1/0,send/pivot/0/1/1/0"
	first, _ := def.Read(text)
	second, _ := def.Read(text)
	clear(first.Steps[:cap(first.Steps)])
	if def.Text(second) != text {
		t.Errorf("the second is %v", second)
	}
}
