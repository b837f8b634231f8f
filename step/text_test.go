package step_test

import (
	"slices"
	"strconv"
	"strings"
	"testing"

	"drayman/api"
	"drayman/step"
)

// opNames and classNames are the words, in the order of their numbers from 1 on.
func opNames() []string    { return []string{"hold", "auth", "keep", "book", "send", "take"} }
func classNames() []string { return []string{"soft", "pivot", "firm"} }

// wantText is the reference of Text.
func wantText(s api.Step) string {
	if !wantFit(s) {
		return ""
	}
	return opNames()[s.Op-1] + "/" + classNames()[s.Class-1] + "/" + strconv.Itoa(s.Tries) + "/" + strconv.Itoa(s.Base) + "/" + strconv.Itoa(s.Cap) + "/" + strconv.Itoa(s.Wait)
}

// checkText holds Text of a fit step against what is wanted, and reads it.
func checkText(t *testing.T, s api.Step) {
	t.Helper()
	got := step.Text(s)
	if got != wantText(s) || got == "" {
		t.Errorf("Text(%+v) is %q, want %q", s, got, wantText(s))
	}
	if back, err := step.Read(got); back != s || err != api.OK {
		t.Errorf("Read(%q) is %+v, %d, want %+v", got, back, err, s)
	}
}

// TestText is of P20.1: texts that are written out, with each word, and with the
// least and the greatest of each number.
func TestText(t *testing.T) {
	for want, s := range map[string]api.Step{
		"hold/soft/0/1/1/20":   {Op: api.OpHold, Class: api.Soft, Base: 1, Cap: 1, Wait: 20},
		"hold/soft/0/1/1/0":    {Op: 1, Class: 1, Base: 1, Cap: 1},
		"hold/soft/5/1/1/0":    {Op: 1, Class: 1, Tries: 5, Base: 1, Cap: 1},
		"auth/soft/1/2/3/4":    {Op: api.OpAuth, Class: api.Soft, Tries: 1, Base: 2, Cap: 3, Wait: 4},
		"auth/pivot/1/2/3/4":   {Op: 2, Class: api.Pivot, Tries: 1, Base: 2, Cap: 3, Wait: 4},
		"auth/firm/1/2/3/0":    {Op: 2, Class: api.Firm, Tries: 1, Base: 2, Cap: 3},
		"keep/soft/5/32/32/10": {Op: api.OpKeep, Class: 1, Tries: 5, Base: 32, Cap: 32, Wait: 10},
		"book/soft/0/1/32/100": {Op: api.OpBook, Class: 1, Base: 1, Cap: 32, Wait: 100},
		"book/pivot/2/9/10/99": {Op: 4, Class: 2, Tries: 2, Base: 9, Cap: 10, Wait: 99},
		"book/firm/4/9/9/0":    {Op: 4, Class: 3, Tries: 4, Base: 9, Cap: 9},
		"send/pivot/3/7/11/1":  {Op: api.OpSend, Class: 2, Tries: 3, Base: 7, Cap: 11, Wait: 1},
		"send/firm/3/7/11/0":   {Op: 5, Class: 3, Tries: 3, Base: 7, Cap: 11},
		"take/soft/2/3/4/5":    {Op: api.OpTake, Class: 1, Tries: 2, Base: 3, Cap: 4, Wait: 5},
		"take/pivot/2/3/4/5":   {Op: 6, Class: 2, Tries: 2, Base: 3, Cap: 4, Wait: 5},
		"take/firm/5/32/32/0":  {Op: 6, Class: 3, Tries: 5, Base: 32, Cap: 32},
	} {
		if got := step.Text(s); got != want {
			t.Errorf("Text(%+v) is %q, want %q", s, got, want)
		}
		if got, err := step.Read(want); got != s || err != api.OK {
			t.Errorf("Read(%q) is %+v, %d", want, got, err)
		}
	}
}

// TestTextOfEach is of P20.1 and of P20.2: fit steps with each policy and with each
// Wait, written and read back.
func TestTextOfEach(t *testing.T) {
	for _, s := range slices.Concat(good(), few()) {
		checkText(t, s)
	}
	for i, p := range inOrder() {
		for j, q := range policies() {
			checkText(t, with(p, q, 0))
			if pairs()[p] {
				checkText(t, with(p, q, (i+j)%(maxWait+1)))
				checkText(t, with(p, q, maxWait))
			}
		}
		if pairs()[p] {
			for wait := range maxWait + 1 {
				checkText(t, with(p, policy{2, 3, 4}, wait))
			}
		}
	}
}

// TestTextOfUnfit is of P20.1: steps that are not fit, for each reason, have no
// text.
func TestTextOfUnfit(t *testing.T) {
	for _, s := range unfit() {
		if got := step.Text(s); got != "" {
			t.Errorf("Text(%+v) is %q", s, got)
		}
	}
}

// TestTextsDiffer is of P20.2: fit steps that differ have texts that differ.
func TestTextsDiffer(t *testing.T) {
	steps := good()
	for _, p := range inOrder() {
		for _, q := range policies() {
			steps = append(steps, with(p, q, 0))
		}
	}
	had := map[string]api.Step{}
	for _, s := range steps {
		text := step.Text(s)
		if x, is := had[text]; is && x != s {
			t.Errorf("%q is the text of %+v and of %+v", text, x, s)
		}
		had[text] = s
	}
	if len(had) < 13*3168 {
		t.Errorf("there are %d texts", len(had))
	}
}

// TestTextsDifferInOneField is of P20.2: a field that is another makes another
// text, and the parts of the other fields stay as they are.
func TestTextsDifferInOneField(t *testing.T) {
	changes := 0
	for _, s := range good() {
		parts := strings.Split(step.Text(s), "/")
		for i, field := range fields() {
			for n := range maxWait + 1 {
				x := change(s, field, n)
				if x == s || !wantFit(x) {
					continue
				}
				changes++
				other := strings.Split(step.Text(x), "/")
				if len(other) != 6 || len(parts) != 6 || other[i] == parts[i] {
					t.Fatalf("the texts of %+v and of %+v do not differ at %d", s, x, i)
				}
				other[i] = parts[i]
				if !slices.Equal(other, parts) {
					t.Fatalf("the texts of %+v and of %+v differ in more than %d", s, x, i)
				}
			}
		}
	}
	if changes < 100000 {
		t.Errorf("there are %d changes", changes)
	}
}
