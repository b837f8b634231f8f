package def_test

import (
	"slices"
	"testing"

	"drayman/api"
	"drayman/def"
	"drayman/wire"
)

// builtTexts are the texts of the built-in definitions, as the chapter lists them.
func builtTexts() []string {
	return []string{
		"fulfil hold/soft/0/1/1/40,auth/soft/3/1/8/30,keep/soft/0/1/1/0,book/pivot/3/1/8/0,send/firm/0/1/1/0,take/firm/5/1/8/0",
		"pickup hold/soft/0/1/1/20,auth/soft/2/1/4/20,keep/soft/0/1/1/0,take/pivot/2/1/4/0,send/firm/0/1/1/0",
		"prepaid auth/soft/3/2/8/0,take/soft/3/2/8/0,book/soft/3/1/4/50",
	}
}

// wantBuilt are the built-in definitions.
func wantBuilt() []api.Def {
	return []api.Def{
		{Name: "fulfil", Steps: []api.Step{{Op: 1, Class: 1, Base: 1, Cap: 1, Wait: 40}, {Op: 2, Class: 1, Tries: 3, Base: 1, Cap: 8, Wait: 30}, {Op: 3, Class: 1, Base: 1, Cap: 1},
			{Op: 4, Class: 2, Tries: 3, Base: 1, Cap: 8}, {Op: 5, Class: 3, Base: 1, Cap: 1}, {Op: 6, Class: 3, Tries: 5, Base: 1, Cap: 8}}},
		{Name: "pickup", Steps: []api.Step{{Op: 1, Class: 1, Base: 1, Cap: 1, Wait: 20}, {Op: 2, Class: 1, Tries: 2, Base: 1, Cap: 4, Wait: 20}, {Op: 3, Class: 1, Base: 1, Cap: 1},
			{Op: 6, Class: 2, Tries: 2, Base: 1, Cap: 4}, {Op: 5, Class: 3, Base: 1, Cap: 1}}},
		{Name: "prepaid", Steps: []api.Step{{Op: 2, Class: 1, Tries: 3, Base: 2, Cap: 8}, {Op: 6, Class: 1, Tries: 3, Base: 2, Cap: 8}, {Op: 4, Class: 1, Tries: 3, Base: 1, Cap: 4, Wait: 50}}},
	}
}

// checkBuilt holds Built against what is wanted.
func checkBuilt(t *testing.T) {
	t.Helper()
	got, want := def.Built(), wantBuilt()
	if len(got) != len(want) {
		t.Fatalf("built in are %d", len(got))
	}
	for i, d := range want {
		if got[i].Name != d.Name || !slices.Equal(got[i].Steps, d.Steps) {
			t.Errorf("built in is %v, want %v", got[i], d)
		}
	}
}

// TestBuilt is of P21.3: each definition, their order, and each text.
func TestBuilt(t *testing.T) {
	checkBuilt(t)
	for i, d := range def.Built() {
		if got := def.Text(d); got != builtTexts()[i] {
			t.Errorf("the text is %q, want %q", got, builtTexts()[i])
		}
	}
}

// TestBuiltIsFit is of P21.5 and of P21.4: what is built in is fit, and is there
// again from its text and its encoding.
func TestBuiltIsFit(t *testing.T) {
	for _, d := range def.Built() {
		checkFit(t, d, true)
		if got, err := def.Read(def.Text(d)); !def.Same(got, d) || err != api.OK {
			t.Errorf("Read of Text is %v, %d", got, err)
		}
		if got := def.Take(wire.New(def.Put(d))); !def.Same(got, d) {
			t.Errorf("Take of Put is %v", got)
		}
	}
}

// TestBuiltIsNew is of P21.3: a change of what was returned does not change what is
// returned next, nor what else was returned.
func TestBuiltIsNew(t *testing.T) {
	first, second := def.Built(), def.Built()
	for i, d := range first {
		clear(d.Steps[:cap(d.Steps)])
		first[i].Name = "x"
		for _, other := range append(first[i+1:], second...) {
			checkFit(t, other, true)
		}
		checkBuilt(t)
	}
	clear(first[:cap(first)])
	checkBuilt(t)
	for i, d := range wantBuilt() {
		if second[i].Name != d.Name || !slices.Equal(second[i].Steps, d.Steps) {
			t.Errorf("the second is %v, want %v", second[i], d)
		}
	}
}

// TestBuiltInLookedAt is of P21.1: places and pivots of what is built in.
func TestBuiltInLookedAt(t *testing.T) {
	for i, want := range [][]int{{-1, 0, 1, 2, 3, 4, 5, -1}, {-1, 0, 1, 2, -1, 4, 3, -1}, {-1, -1, 0, -1, 2, -1, 1, -1}} {
		for op, at := range want {
			checkPlace(t, def.Built()[i], op, at)
		}
		checkPivot(t, def.Built()[i], []int{3, 3, -1}[i])
	}
}

// TestExamples is of P21.1: the chapter's examples.
func TestExamples(t *testing.T) {
	l := def.Built()
	checkPivot(t, l[0], 3)
	checkPivot(t, l[2], -1)
	checkPlace(t, l[1], api.OpTake, 3)
	if got, err := def.Read("x keep/soft/0/1/1/0"); !def.Same(got, api.Def{}) || err != api.ErrForm {
		t.Errorf("Read is %v, %d", got, err)
	}
}
