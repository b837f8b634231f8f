package def_test

import (
	"slices"
	"strconv"
	"testing"

	"drayman/api"
	"drayman/def"
)

// opNames and classNames are the words of a step's text, in the order of their
// numbers from 1 on.
func opNames() []string    { return []string{"hold", "auth", "keep", "book", "send", "take"} }
func classNames() []string { return []string{"soft", "pivot", "firm"} }

// stepText is the text of a step that has an Op and a Class, fit or not.
func stepText(s api.Step) string {
	return opNames()[s.Op-1] + "/" + classNames()[s.Class-1] + "/" + strconv.Itoa(s.Tries) + "/" + strconv.Itoa(s.Base) + "/" + strconv.Itoa(s.Cap) + "/" + strconv.Itoa(s.Wait)
}

// written is the text of a definition whose steps have Ops and Classes, fit or
// not.
func written(d api.Def) string {
	s := d.Name
	for i, x := range d.Steps {
		s += []string{" ", ","}[min(i, 1)] + stepText(x)
	}
	return s
}

// wantText is the reference of Text.
func wantText(d api.Def) string {
	if !wantFit(d) {
		return ""
	}
	return written(d)
}

// checkText holds Text of a definition against what is wanted.
func checkText(t *testing.T, d api.Def, want string) {
	t.Helper()
	if got := def.Text(d); got != want || got != wantText(d) {
		t.Errorf("Text is %.500q, want %.500q, of %.500v", got, want, d)
	}
}

// TestText is of P21.1: texts that are written out.
func TestText(t *testing.T) {
	for want, d := range map[string]api.Def{
		"x book/soft/0/1/1/0":                                      {Name: "x", Steps: []api.Step{{Op: 4, Class: 1, Base: 1, Cap: 1}}},
		"ä-0 auth/pivot/5/31/32/100":                               {Name: "ä-0", Steps: []api.Step{{Op: 2, Class: 2, Tries: 5, Base: 31, Cap: 32, Wait: 100}}},
		"x auth/soft/1/2/3/4,take/soft/2/3/4/5":                    {Name: "x", Steps: []api.Step{{Op: 2, Class: 1, Tries: 1, Base: 2, Cap: 3, Wait: 4}, {Op: 6, Class: 1, Tries: 2, Base: 3, Cap: 4, Wait: 5}}},
		"x auth/pivot/1/2/3/4,take/firm/2/3/4/0":                   {Name: "x", Steps: []api.Step{{Op: 2, Class: 2, Tries: 1, Base: 2, Cap: 3, Wait: 4}, {Op: 6, Class: 3, Tries: 2, Base: 3, Cap: 4}}},
		"abcdefghijkl book/soft/0/10/20/30":                        {Name: "abcdefghijkl", Steps: []api.Step{{Op: 4, Class: 1, Base: 10, Cap: 20, Wait: 30}}},
		"x book/pivot/0/1/1/0,auth/firm/0/1/1/0":                   {Name: "x", Steps: []api.Step{{Op: 4, Class: 2, Base: 1, Cap: 1}, {Op: 2, Class: 3, Base: 1, Cap: 1}}},
		"0 hold/soft/0/1/1/0,keep/soft/0/1/1/0,send/pivot/0/1/1/0": {Name: "0", Steps: []api.Step{{Op: 1, Class: 1, Base: 1, Cap: 1}, {Op: 3, Class: 1, Base: 1, Cap: 1}, {Op: 5, Class: 2, Base: 1, Cap: 1}}},
		"fulfil hold/soft/0/1/1/40,auth/soft/3/1/8/30,keep/soft/0/1/1/0,book/pivot/3/1/8/0,send/firm/0/1/1/0,take/firm/5/1/8/0": {Name: "fulfil", Steps: []api.Step{
			{Op: api.OpHold, Class: api.Soft, Tries: 0, Base: 1, Cap: 1, Wait: 40}, {Op: api.OpAuth, Class: api.Soft, Tries: 3, Base: 1, Cap: 8, Wait: 30},
			{Op: api.OpKeep, Class: api.Soft, Tries: 0, Base: 1, Cap: 1, Wait: 0}, {Op: api.OpBook, Class: api.Pivot, Tries: 3, Base: 1, Cap: 8, Wait: 0},
			{Op: api.OpSend, Class: api.Firm, Tries: 0, Base: 1, Cap: 1, Wait: 0}, {Op: api.OpTake, Class: api.Firm, Tries: 5, Base: 1, Cap: 8, Wait: 0}}},
	} {
		checkText(t, d, want)
		if got, err := def.Read(want); !def.Same(got, d) || err != api.OK {
			t.Errorf("Read(%q) is %v, %d", want, got, err)
		}
	}
}

// TestTextOfFit is of P21.1 and of P21.4: fit definitions of each form, with each
// name, and what is read from their texts.
func TestTextOfFit(t *testing.T) {
	for _, d := range fits() {
		checkText(t, d, written(d))
		got, err := def.Read(def.Text(d))
		if got.Name != d.Name || !slices.Equal(got.Steps, d.Steps) || err != api.OK {
			t.Errorf("Read of Text is %v, %d, want %v", got, err, d)
		}
	}
}

// TestTextOfUnfit is of P21.1: definitions that are not fit, for each reason, have
// no text.
func TestTextOfUnfit(t *testing.T) {
	for _, d := range unfit() {
		checkText(t, d, "")
	}
	for _, form := range forms() {
		for at := range of(form).Steps {
			for _, d := range badSteps(of(form), at) {
				checkText(t, d, "")
			}
		}
	}
	for many := range 4 {
		for _, form := range sequences(many, kinds()) {
			checkText(t, of(form), wantText(of(form)))
		}
	}
}

// TestTextOfEach is of P21.1 and of P21.4: fit definitions that differ, in whatever,
// have texts that differ.
func TestTextOfEach(t *testing.T) {
	all, texts := 0, map[string]bool{}
	note := func(d api.Def) {
		all++
		texts[def.Text(d)] = true
	}
	for _, form := range forms() {
		for _, d := range append(edges(form), called("y", of(form)), called("xx", of(form))) {
			note(d)
			for at, s := range d.Steps {
				for _, other := range []api.Def{change(d, at, tries, (s.Tries+2)%6), change(d, at, base, s.Base%s.Cap+1), change(d, at, limit, (s.Cap+4)%32+1), change(d, at, wait, 77)} {
					if wantFit(other) && other.Steps[at] != s {
						note(other)
					}
				}
			}
		}
	}
	if all < 8000 || len(texts) != all || texts[""] {
		t.Errorf("%d definitions have %d texts", all, len(texts))
	}
}
