package inbox_test

import (
	"slices"
	"testing"

	"drayman/api"
	"drayman/inbox"
)

// chances makes the same row of numbers, each below n, of each seed.
func chances(seed int) func(n int) int {
	x := uint64(seed)*2654435761 + 12345
	return func(n int) int {
		x = x*6364136223846793005 + 1442695040888963407
		return int(x>>33) % n
	}
}

// after is what comes of one mark, which must be done. The box that was handed
// in is spoilt when it has been seen to be as it was.
func after(t *testing.T, b api.Box, id int) api.Box {
	t.Helper()
	before := copied(b)
	got, err := inbox.Mark(b, id)
	if err != api.OK || !equal(b, before) {
		t.Fatalf("Mark(%s; %d) is %d, or changed it to %s", short(before), id, err, short(b))
	}
	spoil(b)
	return got
}

// book keeps apart what a box must have received: which Ids were marked, and how
// far up all have passed.
type book struct {
	passed int
	marked map[int]struct{}
}

// above are the numbers that the box must have above, in order.
func (k *book) above() []int {
	var l []int
	for n := range k.marked {
		if n > k.passed {
			l = append(l, n)
		}
	}
	slices.Sort(l)
	return l
}

// mark notes one Id, and answers what must come of it.
func (k *book) mark(id int) string {
	what := "marked"
	if _, is := k.marked[id]; is {
		return "received"
	}
	if id <= k.passed {
		return "passed"
	}
	k.marked[id] = struct{}{}
	if l := k.above(); len(l) > full {
		k.passed = l[0]
		what = "pushed"
	}
	for {
		if _, is := k.marked[k.passed+1]; !is {
			return what
		}
		k.passed++
		if what == "marked" {
			what = "joined"
		}
	}
}

// checkBook holds all that can be asked of a box against what is kept apart.
func checkBook(t *testing.T, b api.Box, k *book, greatest int) {
	t.Helper()
	if !inbox.Fit(b) || b.Low != k.passed || !slices.Equal(b.Above, k.above()) {
		t.Fatalf("%s is not fit, or not %d: %v", short(b), k.passed, k.above())
	}
	for id := 1; id <= greatest+2; id++ {
		_, is := k.marked[id]
		if got := inbox.Had(b, id); got != (is || id <= k.passed) {
			t.Fatalf("Had(%s; %d) is %t", short(b), id, got)
		}
	}
}

// TestRows is of P18.2, P18.3 and P18.4: long rows of Ids that come more or less
// in order, some more than once and some never. What must have been received is
// kept apart; what is received before is refused and changes nothing.
func TestRows(t *testing.T) {
	done := map[string]int{}
	for seed := range 60 {
		chance := chances(seed)
		b := inbox.New(1 + seed%2)
		k := &book{marked: map[int]struct{}{}}
		spread := []int{2, 5, 17, 40, 90}[seed%5]
		for i := range 400 {
			id := i/2 + 1 + chance(spread)
			before := copied(b)
			want := k.mark(id)
			done[want]++
			if want == "received" || want == "passed" {
				got, err := inbox.Mark(b, id)
				if err != api.ErrOld || !equal(got, api.Box{}) || !equal(b, before) {
					t.Fatalf("Mark(%s; %d) is %s, %d", short(before), id, short(got), err)
				}
			} else {
				b = after(t, b, id)
			}
			checkBook(t, b, k, 300)
		}
	}
	for _, what := range []string{"marked", "joined", "pushed", "received", "passed"} {
		if done[what] < 300 {
			t.Errorf("only %d acts of 24000 were %s: %v", done[what], what, done)
		}
	}
}

// TestOnce is of P18.3: whatever comes, in whatever order and however often, no
// Id is received twice, and none that was received is forgotten.
func TestOnce(t *testing.T) {
	for seed := range 40 {
		chance := chances(1000 + seed)
		b := inbox.New(api.Carry)
		times := map[int]int{}
		for range 600 {
			id := 1 + chance(10+seed*8)
			got, err := inbox.Mark(b, id)
			if err == api.OK {
				times[id]++
				b = got
			}
			if err != api.OK && err != api.ErrOld || times[id] > 1 || !inbox.Had(b, id) {
				t.Fatalf("Mark of %d is %d, and it was received %d times", id, err, times[id])
			}
			for n := range times {
				if !inbox.Had(b, n) {
					t.Fatalf("%s has forgotten %d", short(b), n)
				}
			}
		}
	}
}

// TestOrders is of P18.3: seven Ids in each order, of which nothing is lost and
// nothing is left above, each one twice.
func TestOrders(t *testing.T) {
	orders := 0
	var all func(b api.Box, left []int)
	all = func(b api.Box, left []int) {
		if len(left) == 0 {
			orders++
			if !inbox.Same(b, box(1, 7)) {
				t.Fatalf("all have come, and there is %s", short(b))
			}
		}
		for i, id := range left {
			got := after(t, copied(b), id)
			if _, err := inbox.Mark(got, id); err != api.ErrOld {
				t.Fatalf("Mark(%s; %d) once more is %d", short(got), id, err)
			}
			rest := slices.Delete(slices.Clone(left), i, i+1)
			for n := 1; n <= 7; n++ {
				if inbox.Had(got, n) == slices.Contains(rest, n) {
					t.Fatalf("%d is left of %v, and there is %s", n, rest, short(got))
				}
			}
			if got.Low != lowest(rest)-1 {
				t.Fatalf("%v are left, and there is %s", rest, short(got))
			}
			all(got, rest)
		}
	}
	all(inbox.New(api.Pay), from(1, 7, 1))
	if orders != 5040 {
		t.Errorf("there are %d orders", orders)
	}
}

// lowest is the least of some numbers up to seven, or what is next to seven.
func lowest(l []int) int { return slices.Min(append(slices.Clone(l), 8)) }

// TestInOrder is of P18.4: Ids that are received in order need nothing above, nor
// do pairs turned round, but between the two.
func TestInOrder(t *testing.T) {
	for _, first := range []int{0, 1, 77, 1<<32 - 100, most - 1000} {
		b, pairs := box(1, first), box(2, first)
		for i := 1; i <= 1000; i++ {
			b = after(t, b, first+i)
			if b.Low != first+i || len(b.Above) != 0 {
				t.Fatalf("behind %d in order is %s", i, short(b))
			}
			next := first + i + 1
			if i%2 == 0 {
				next = first + i - 1
			}
			pairs = after(t, pairs, next)
			if i%2 == 0 && (pairs.Low != first+i || len(pairs.Above) != 0) || i%2 == 1 && !equal(pairs, box(2, first+i-1, first+i+1)) {
				t.Fatalf("behind %d in pairs is %s", i, short(pairs))
			}
		}
	}
}

// TestBackwards is of P18.2 and P18.3: Ids from the last one down. The
// seventeenth is the least and passes, with all that are in a row behind it.
func TestBackwards(t *testing.T) {
	b := inbox.New(api.Pay)
	for id := 40; id > 24; id-- {
		b = after(t, b, id)
		if b.Low != 0 || !slices.Equal(b.Above, from(id, 41-id, 1)) {
			t.Fatalf("down to %d there is %s", id, short(b))
		}
	}
	b = after(t, b, 24)
	if !inbox.Same(b, box(1, 40)) {
		t.Fatalf("with the seventeenth there is %s", short(b))
	}
	for id := 1; id < 41; id++ {
		checkErr(t, "Mark of what was passed", checkMark(t, b, id), api.ErrOld)
	}
}

// TestOfEachOther is of P18.2: each other Id, of which sixteen stay above.
func TestOfEachOther(t *testing.T) {
	b := inbox.New(api.Carry)
	for i := 1; i < 400; i++ {
		b = after(t, b, 3*i)
		low, many := 3*max(i-16, 0), min(i, 16)
		if b.Low != low || !slices.Equal(b.Above, from(low+3, many, 3)) {
			t.Fatalf("behind %d there is %s", 3*i, short(b))
		}
	}
}

// TestBranches is of P18.2: boxes that come of one do not touch each other,
// whatever is marked.
func TestBranches(t *testing.T) {
	for many := range 17 {
		for _, b := range kinds(many) {
			if b.Low > most-40 {
				b.Low, b.Above = b.Low-100, from(b.Low-90, many, 2)
			}
			free := slices.DeleteFunc(from(b.Low+1, 40, 1), func(id int) bool { return slices.Contains(b.Above, id) })
			boxes := []api.Box{b}
			for i, id := range []int{free[0], free[1], free[2], free[9], free[len(free)-1], most} {
				boxes = append(boxes, must(t, b, id))
				for _, next := range []int{free[1], free[3], free[10], most} {
					if last := boxes[len(boxes)-1-i%2]; !inbox.Had(last, next) {
						boxes = append(boxes, must(t, last, next))
					}
				}
			}
			var before []api.Box
			for _, x := range boxes {
				before = append(before, copied(x))
			}
			for i, x := range boxes {
				spoil(x)
				for j, y := range boxes[i+1:] {
					if !equal(y, before[i+1+j]) {
						t.Fatalf("boxes of one share memory: %s was %s", short(y), short(before[i+1+j]))
					}
				}
			}
		}
	}
}

// TestAppended is of P18.2: what is appended to one answer twice makes two lists.
func TestAppended(t *testing.T) {
	for many := range 17 {
		for _, b := range kinds(many) {
			for _, id := range idsFor(b) {
				got, err := inbox.Mark(b, id)
				if err != api.OK {
					continue
				}
				x, y := append(got.Above, -1), append(got.Above, -2)
				if x[len(x)-1] != -1 || y[len(y)-1] != -2 {
					t.Fatalf("Mark(%s; %d) has room behind its list", short(b), id)
				}
			}
		}
	}
}

// must is what comes of one mark, which must be done.
func must(t *testing.T, b api.Box, id int) api.Box {
	t.Helper()
	got, err := inbox.Mark(b, id)
	checkErr(t, "Mark", err, api.OK)
	return got
}

// TestExamples is of the chapter's examples.
func TestExamples(t *testing.T) {
	b, err := inbox.Mark(inbox.New(api.Pay), 2)
	checkErr(t, "Mark of 2", err, api.OK)
	if !slices.Equal(b.Above, []int{2}) || b.Low != 0 {
		t.Errorf("behind Mark of 2 there is %s", short(b))
	}
	b, err = inbox.Mark(b, 1)
	checkErr(t, "Mark of 1", err, api.OK)
	if b.Low != 2 || len(b.Above) != 0 {
		t.Errorf("behind Mark of 1 there is %s", short(b))
	}
	_, err = inbox.Mark(b, 2)
	checkErr(t, "Mark of 2 again", err, api.ErrOld)
}
