package letter_test

import (
	"fmt"
	"math"
	"slices"
	"strconv"
	"strings"
	"testing"

	"drayman/api"
	"drayman/letter"
)

// messy are lists that are not fit and have a saga more than once, in any order,
// or letters that are not valid.
func messy() [][]api.Letter {
	return [][]api.Letter{
		{{Saga: 3, At: 1}, {Saga: 1, At: 2}, {Saga: 3, At: 3}, {Saga: 2, At: 4}, {Saga: 1, At: 5}, {Saga: 3, At: 6}},
		{{Saga: 0, At: 1}, {Saga: -1, At: 2}, {Saga: 0, At: 3}, {Saga: math.MinInt, At: 4}, {Saga: math.MaxInt, At: 5}, {Saga: -1, At: 6}, {Saga: math.MaxInt, At: 7}},
		{le(5), with(le(5), func(x *api.Letter) { x.Back = true }), with(le(5), func(x *api.Letter) { x.Why = 7 }), le(5)},
		{{}, {}, {Step: 1}, {Saga: 1}, {Why: 7}, {Saga: 1, Why: 8}},
		{le(1<<32 + 1), le(1), le(257), with(le(1), func(x *api.Letter) { x.Step = 2 }), le(1<<32 + 257)},
		slices.Repeat(some(20), 30),
		slices.Concat(high(20), dense(20), high(20)),
	}
}

// sagasFor are Sagas to ask a list for: those of its letters, those beside them,
// those that end with the same bits, and those at the edges.
func sagasFor(l []api.Letter) []int {
	sagas := []int{-1, 0, 1, 2, 3, 4, 257, 1<<32 + 1, most - 1, most, most + 1, math.MinInt, math.MinInt + 1, math.MaxInt - 1, math.MaxInt}
	for _, x := range l {
		sagas = append(sagas, x.Saga-1, x.Saga, x.Saga+1, x.Saga+1<<32, x.Saga-1<<32, x.Saga+256, -x.Saga)
	}
	slices.Sort(sagas)
	return slices.Compact(sagas)
}

// wantFind is the reference of Find: from the back, the last one that is met.
func wantFind(l []api.Letter, saga int) (api.Letter, bool) {
	var found api.Letter
	is := false
	for i := len(l) - 1; i >= 0; i-- {
		if l[i].Saga == saga {
			found, is = l[i], true
		}
	}
	return found, is
}

// checkFind holds Find against its reference.
func checkFind(t *testing.T, l []api.Letter, saga int) bool {
	t.Helper()
	list, asItWas := laid(l)
	want, is := wantFind(l, saga)
	if got, ok := letter.Find(list, saga); got != want || ok != is {
		t.Fatalf("Find(%s; %d) is %v, %t; want %v, %t", short(l), saga, got, ok, want, is)
	}
	if !asItWas() {
		t.Fatalf("Find changed %s", short(l))
	}
	return is
}

// TestFind is of P19.1: in lists of each length each saga, first, in the midst
// and last; and what is not there.
func TestFind(t *testing.T) {
	for many := range 17 {
		for _, l := range kinds(many) {
			found := 0
			for _, saga := range sagasFor(l) {
				if checkFind(t, l, saga) {
					found++
				}
			}
			if found != many {
				t.Fatalf("in %s are found %d", short(l), found)
			}
			for _, x := range l {
				if got, is := letter.Find(l, x.Saga); !is || got != x {
					t.Fatalf("Find(%s; %d) is %v, %t", short(l), x.Saga, got, is)
				}
			}
		}
	}
	l := []api.Letter{{Saga: 5, Why: 7, At: 1}, {Saga: 6, Step: 2, Why: 8, At: 3}, {Saga: 7, Step: 4, Back: true, Why: 7, At: 5}}
	for i, x := range l {
		if got, is := letter.Find(l, 5+i); !is || got != x {
			t.Errorf("Find(%s; %d) is %v, %t", short(l), 5+i, got, is)
		}
	}
	for _, saga := range []int{4, 8, 1, 3, 0, -5, 50, 1<<32 + 5, 256 + 5, most} {
		if got, is := letter.Find(l, saga); is || got != (api.Letter{}) {
			t.Errorf("Find(%s; %d) is %v, %t", short(l), saga, got, is)
		}
	}
}

// TestFindInUnfit is of P19.1: in lists that are not fit, the first letter that
// has the saga, whatever this is.
func TestFindInUnfit(t *testing.T) {
	for _, l := range append(messy(), unfit()...) {
		for _, x := range l[:min(len(l), 30)] {
			if !checkFind(t, l, x.Saga) {
				t.Fatalf("not found in %s: %v", short(l), x)
			}
		}
	}
	for _, l := range messy() {
		for _, saga := range sagasFor(l) {
			checkFind(t, l, saga)
		}
	}
	l := messy()[0]
	for saga, want := range map[int]api.Letter{3: l[0], 1: l[1], 2: l[3], 0: {}, 4: {}} {
		if got, is := letter.Find(l, saga); is != (saga > 0 && saga < 4) || got != want {
			t.Errorf("Find(%s; %d) is %v, %t", short(l), saga, got, is)
		}
	}
	// The zero letter is found where it is there, and is no other answer then.
	if got, is := letter.Find([]api.Letter{{}, {Step: 1}}, 0); !is || got != (api.Letter{}) {
		t.Errorf("the zero letter: %v, %t", got, is)
	}
}

// wantText is the reference of Text.
func wantText(x api.Letter) string {
	if !wantValid(x) {
		return ""
	}
	back := map[bool]string{true: "back "}[x.Back]
	word := map[int]string{7: "tries", 8: "parked"}[x.Why]
	return fmt.Sprintf("saga %d step %d %s%s at %d", x.Saga, x.Step, back, word, x.At)
}

// checkText holds Text against its reference.
func checkText(t *testing.T, x api.Letter) string {
	t.Helper()
	got := letter.Text(x)
	if got != wantText(x) || (got == "") == wantValid(x) {
		t.Fatalf("Text of %v is %q, not %q", x, got, wantText(x))
	}
	return got
}

// TestText is of P19.1: texts, written out.
func TestText(t *testing.T) {
	for _, c := range []struct {
		x    api.Letter
		want string
	}{
		{api.Letter{Saga: 3, Step: 1, Why: api.WhyPark, At: 9}, "saga 3 step 1 parked at 9"},
		{api.Letter{Saga: 3, Step: 1, Why: api.WhyTries, At: 9}, "saga 3 step 1 tries at 9"},
		{api.Letter{Saga: 3, Step: 1, Back: true, Why: api.WhyPark, At: 9}, "saga 3 step 1 back parked at 9"},
		{api.Letter{Saga: 3, Step: 1, Back: true, Why: api.WhyTries, At: 9}, "saga 3 step 1 back tries at 9"},
		{api.Letter{Saga: 1, Why: api.WhyPark}, "saga 1 step 0 parked at 0"},
		{api.Letter{Saga: 1, Back: true, Why: api.WhyTries}, "saga 1 step 0 back tries at 0"},
		{api.Letter{Saga: 1, Step: 5, Why: api.WhyTries}, "saga 1 step 5 tries at 0"},
		{api.Letter{Saga: most, Why: api.WhyPark}, "saga 1099511627776 step 0 parked at 0"},
		{api.Letter{Saga: 1, Why: api.WhyTries, At: most}, "saga 1 step 0 tries at 1099511627776"},
		{api.Letter{Saga: most, Step: 5, Back: true, Why: api.WhyPark, At: most}, "saga 1099511627776 step 5 back parked at 1099511627776"},
		{api.Letter{Saga: 10, Step: 4, Why: api.WhyPark, At: 100}, "saga 10 step 4 parked at 100"},
		{api.Letter{}, ""},
		{api.Letter{Saga: 1}, ""},
		{api.Letter{Saga: 0, Step: 1, Why: api.WhyPark, At: 9}, ""},
		{api.Letter{Saga: -3, Step: 1, Why: api.WhyPark, At: 9}, ""},
		{api.Letter{Saga: most + 1, Step: 1, Why: api.WhyPark, At: 9}, ""},
		{api.Letter{Saga: 3, Step: -1, Why: api.WhyPark, At: 9}, ""},
		{api.Letter{Saga: 3, Step: 6, Why: api.WhyPark, At: 9}, ""},
		{api.Letter{Saga: 3, Step: 1, Why: api.WhyStop, At: 9}, ""},
		{api.Letter{Saga: 3, Step: 1, Why: 9, At: 9}, ""},
		{api.Letter{Saga: 3, Step: 1, Why: api.WhyNone, At: 9}, ""},
		{api.Letter{Saga: 3, Step: 1, Why: api.WhyPark, At: -1}, ""},
		{api.Letter{Saga: 3, Step: 1, Why: api.WhyPark, At: most + 1}, ""},
	} {
		if got := letter.Text(c.x); got != c.want {
			t.Errorf("Text of %v is %q, not %q", c.x, got, c.want)
		}
		checkText(t, c.x)
	}
}

// TestTextOfInvalid is of P19.1: each reason for which a letter is not valid.
func TestTextOfInvalid(t *testing.T) {
	for _, l := range append(kinds(16), []api.Letter{{Saga: 1, Why: 7}, {Saga: most, Step: 5, Back: true, Why: 8, At: most}}) {
		for _, x := range l {
			checkText(t, x)
			for _, bad := range badLetters(x) {
				if got := letter.Text(bad); got != "" {
					t.Errorf("Text of %v is %q", bad, got)
				}
			}
		}
	}
}

// TestTextOfEachNumber is of P19.1: small numbers at each place of a letter.
func TestTextOfEachNumber(t *testing.T) {
	texts := 0
	for saga := -2; saga < 13; saga++ {
		for step := -3; step < 10; step++ {
			for why := -9; why < 20; why++ {
				for at := -2; at < 13; at++ {
					x := api.Letter{Saga: saga, Step: step, Why: why, At: at}
					checkText(t, with(x, func(x *api.Letter) { x.Back = true }))
					if checkText(t, x) != "" {
						texts++
					}
				}
			}
		}
	}
	if texts != 12*6*2*13 {
		t.Errorf("there are %d texts", texts)
	}
}

// read is the letter that has a text: what Text did, undone word by word.
func read(t *testing.T, text string) api.Letter {
	t.Helper()
	words := strings.Split(text, " ")
	back := len(words) == 8
	if back && words[4] == "back" {
		words = slices.Delete(words, 4, 5)
	}
	if len(words) != 7 || words[0] != "saga" || words[2] != "step" || words[5] != "at" {
		t.Fatalf("%q has other words", text)
	}
	x := api.Letter{Back: back, Why: map[string]int{"tries": 7, "parked": 8}[words[4]]}
	for i, to := range map[int]*int{1: &x.Saga, 3: &x.Step, 6: &x.At} {
		n, err := strconv.Atoi(words[i])
		if err != nil || strconv.Itoa(n) != words[i] {
			t.Fatalf("%q has another number than %d", text, n)
		}
		*to = n
	}
	return x
}

// TestTextsDiffer is of P19.4: of letters whose fields have each value at the
// edges, and of each small letter, no two have one text.
func TestTextsDiffer(t *testing.T) {
	texts := map[string]api.Letter{}
	numbers := append(goodAts(), 4, 5, 6, 7, 8, 11, 12, 21, 22, 111, 112, 121, 1111)
	for _, saga := range numbers {
		for _, at := range numbers {
			for step := range 6 {
				for _, back := range []bool{false, true} {
					for why := 7; why < 9; why++ {
						x := api.Letter{Saga: saga, Step: step, Back: back, Why: why, At: at}
						if !wantValid(x) {
							continue
						}
						text := checkText(t, x)
						if y, is := texts[text]; is || read(t, text) != x {
							t.Fatalf("%q is the text of %v and of %v", text, x, y)
						}
						texts[text] = x
					}
				}
			}
		}
	}
	if many := len(numbers); len(texts) != (many-1)*many*6*2*2 {
		t.Errorf("there are %d texts", len(texts))
	}
}

// TestTextsOfOneField is of P19.4: letters that differ in any one field, however
// little, have texts that differ.
func TestTextsOfOneField(t *testing.T) {
	for _, l := range append(kinds(16), []api.Letter{{Saga: 1, Why: 7}, {Saga: most, Step: 5, Back: true, Why: 8, At: most}, le(3)}) {
		for _, x := range l {
			others := []api.Letter{
				with(x, func(x *api.Letter) { x.Back = !x.Back }),
				with(x, func(x *api.Letter) { x.Why = 15 - x.Why }),
			}
			for by := 1; by < most; by *= 2 {
				for _, n := range []int{-by, by} {
					others = append(others,
						with(x, func(x *api.Letter) { x.Saga += n }),
						with(x, func(x *api.Letter) { x.Step += n }),
						with(x, func(x *api.Letter) { x.At += n }),
					)
				}
			}
			for _, y := range others {
				if letter.Text(x) == letter.Text(y) {
					t.Fatalf("%v and %v have the text %q", x, y, letter.Text(x))
				}
				if wantValid(y) && read(t, checkText(t, y)) != y {
					t.Fatalf("%v has the text %q", y, letter.Text(y))
				}
			}
		}
	}
}
