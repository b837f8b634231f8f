package ledger_test

import (
	"maps"
	"slices"
	"testing"

	"drayman/api"
	"drayman/ledger"
)

// chances makes the same row of numbers, each below n, of each seed.
func chances(seed int) func(n int) int {
	x := uint64(seed)*2654435761 + 12345
	return func(n int) int {
		x = x*6364136223846793005 + 1442695040888963407
		return int(x>>33) % n
	}
}

// apart is a book kept apart, call by call: what came in, was kept and was sent
// of each Sku, and the holds. What is held and in hand follows from that.
type apart struct {
	in, kept, sent map[string]int
	held           map[int]api.Hold
}

// book is the book that there must be.
func (a apart) book() ledger.Book {
	var b ledger.Book
	for _, s := range slices.Sorted(maps.Keys(a.in)) {
		b.Skus = append(b.Skus, api.Sku{Name: s, Hand: a.in[s] - a.kept[s] - a.sent[s] - a.of(s), Kept: a.kept[s], Sent: a.sent[s]})
	}
	for _, saga := range slices.Sorted(maps.Keys(a.held)) {
		b.Holds = append(b.Holds, a.held[saga])
	}
	return settled(b)
}

// of is how many of a Sku are held.
func (a apart) of(s string) int {
	n := 0
	for _, h := range a.held {
		for _, x := range h.Lines {
			if x.Sku == s {
				n += x.N
			}
		}
	}
	return n
}

// follow does what a call did that had no error.
func (a apart) follow(name string, g given) {
	h := api.Hold{Saga: g.saga, Lines: slices.Clone(g.l), Until: g.until}
	switch name {
	case "Restock", "Adjust":
		a.in[g.sku] += g.n
	case "Hold":
		a.held[g.saga] = h
	case "Release":
		delete(a.held, g.saga)
	case "Keep":
		for _, x := range a.held[g.saga].Lines {
			a.kept[x.Sku] += x.N
		}
		delete(a.held, g.saga)
	case "Unkeep":
		a.held[g.saga] = h
		for _, x := range g.l {
			a.kept[x.Sku] -= x.N
		}
	case "Send":
		for _, x := range g.l {
			a.kept[x.Sku] -= x.N
			a.sent[x.Sku] += x.N
		}
	}
}

// someGiven is what a call may be handed: of these Skus, in numbers up to about
// so many, now and then beside the edges.
func someGiven(chance func(n int) int, skus []string, sagas []int, about int) given {
	g := given{sku: skus[chance(len(skus))], n: 1 + chance(4*about), saga: sagas[chance(len(sagas))], until: []int{0, chance(9), most - chance(2)}[chance(3)]}
	for len(g.l) == 0 {
		for _, s := range skus {
			if len(g.l) < 4 && chance(4) == 0 {
				g.l = append(g.l, api.Line{Sku: s, N: 1 + chance(about)})
			}
		}
	}
	switch chance(20) {
	case 0:
		g.n = []int{0, most, most + 1}[chance(3)]
	case 1:
		g.l[chance(len(g.l))].N = []int{0, maxQty, maxQty + 1}[chance(3)]
	case 2:
		g.l[0].Sku = []string{"", "Tea", "zz"}[chance(3)]
	case 3:
		slices.Reverse(g.l)
	case 4:
		g.sku = badNames()[chance(len(badNames()))]
	}
	return g
}

// TestRows is of P14.4 and P14.5: long rows of all calls. What must be there is
// kept apart; behind each call the book is fit and has, of each Sku, what came
// in, with adjustments; what is refused changes nothing.
func TestRows(t *testing.T) {
	done, refused := map[string]int{}, map[api.Errno]int{}
	for seed := range 120 {
		chance := chances(seed)
		skus := slices.Sorted(slices.Values(append(names()[:3+seed%10], between()[seed%10:seed%10+3]...)))
		sagas := []int{1, 2, 3, 5, 8, 1 << 32, most - 1, most}
		for i := range 5 * (seed % 4) {
			sagas = append(sagas, 100+7*i)
		}
		about := []int{3, 40, 100000, maxQty}[seed%4]
		var b ledger.Book
		a := apart{map[string]int{}, map[string]int{}, map[string]int{}, map[int]api.Hold{}}
		for range 400 {
			// Holds are put now more often than they are dropped, now less.
			c := calls()[[]int{0, 0, 1, 2, 2, 2, 3, 4, 4, 5, 6, 2 + seed%4}[chance(12)]]
			g := someGiven(chance, skus, sagas, about)
			if c.name == "Adjust" && chance(2) == 0 {
				g.n = -g.n
			}
			got, err := check(t, c, b, g)
			if err != api.OK {
				refused[err]++
				continue
			}
			a.follow(c.name, g)
			done[c.name]++
			spoil(b)
			spoilLines(g.l)
			if want := a.book(); !equal(got, want) || !balanced(got, a.in) {
				t.Fatalf("behind %s of %v: %s; want %s", c.name, g, short(got), short(want))
			}
			b = got
		}
	}
	for _, c := range calls() {
		if done[c.name] < 400 {
			t.Errorf("only %d calls were %s", done[c.name], c.name)
		}
	}
	for _, err := range []api.Errno{api.ErrForm, api.ErrFull, api.ErrRange, api.ErrOver, api.ErrStock, api.ErrNone, api.ErrArg, api.ErrTwice} {
		if refused[err] < 30 {
			t.Errorf("only %d calls were refused with %d", refused[err], err)
		}
	}
	if refused[api.ErrBad] > 0 {
		t.Errorf("%d calls were refused with ErrBad", refused[api.ErrBad])
	}
}

// balanced reports whether a book has, of each Sku, what came in.
func balanced(b ledger.Book, in map[string]int) bool {
	is := len(b.Skus) == len(in)
	for _, x := range b.Skus {
		is = is && x.In == in[x.Name] && x.Hand+x.Held+x.Kept+x.Sent == in[x.Name]
	}
	return is
}

// TestReached is of P14.4: beginning with the empty book, every row of calls of
// small numbers, as long as no more than so many of a Sku came in.
func TestReached(t *testing.T) {
	var all []struct {
		call
		given
	}
	add := func(c call, l ...given) {
		for _, g := range l {
			all = append(all, struct {
				call
				given
			}{c, g})
		}
	}
	add(restock(), sku("a", 1), sku("b", 1), sku("a", 2))
	add(adjust(), sku("a", -1), sku("b", 1), sku("b", -2))
	for _, c := range []call{holding(), unkeep()} {
		add(c, put(1, 0, "a 1"), put(2, 3, "a 1, b 1"), put(3, 0, "b 2"), put(2, 0, "a 3"))
	}
	for _, c := range []call{release(), keep()} {
		add(c, saga(1), saga(2), saga(3))
	}
	add(send(), sent("a 1"), sent("b 1"), sent("a 1, b 1"))
	reached := map[string]bool{}
	for next := []ledger.Book{{}}; len(next) > 0; next = next[1:] {
		for _, c := range all {
			got, err := check(t, c.call, next[0], c.given)
			if err != api.OK || slices.ContainsFunc(got.Skus, func(x api.Sku) bool { return x.In > 3 }) {
				continue
			}
			if key := short(got); !reached[key] {
				reached[key] = true
				next = append(next, got)
			}
		}
	}
	if len(reached) < 500 {
		t.Errorf("only %d books were reached", len(reached))
	}
}

// TestThereAndBack is of P14.5: what is held and released, and what is kept and
// held again, is the book that it was, of books of each size.
func TestThereAndBack(t *testing.T) {
	for _, size := range sizes()[1:] {
		b := some(size[0], size[1])
		for _, h := range b.Holds {
			x := checkErr(t, keep(), b, saga(h.Saga), api.OK)
			checkIs(t, unkeep(), x, putOf(h), b, api.OK)
			x = checkErr(t, release(), b, saga(h.Saga), api.OK)
			checkIs(t, holding(), x, putOf(h), b, api.OK)
		}
		if size[1] == maxSagas {
			continue
		}
		for saga := 5; saga < 10*size[1]+10; saga += 10 {
			for _, h := range some(size[0], 16).Holds {
				h.Saga = saga
				x := checkErr(t, holding(), b, putOf(h), api.OK)
				checkIs(t, release(), x, given{saga: saga}, b, api.OK)
				x = checkErr(t, unkeep(), b, putOf(h), api.OK)
				checkIs(t, keep(), x, given{saga: saga}, b, api.OK)
			}
		}
	}
}

// TestAllTheWay is of P14.2 to P14.4: sixteen sagas hold, keep and send, in
// turns; in the end nothing is held or kept, and what was sent is sent.
func TestAllTheWay(t *testing.T) {
	start := some(12, 0)
	for i := range start.Skus {
		start.Skus[i].Hand, start.Skus[i].Kept = 1000, 0
	}
	b := settled(start)
	holds := some(12, 16).Holds
	for _, h := range holds {
		b = checkErr(t, holding(), b, putOf(h), api.OK)
	}
	checkErr(t, holding(), b, put(165, 0, "1 1"), api.ErrFull)
	want := settled(start)
	for i := range holds {
		h := holds[i*5%16]
		b = checkErr(t, keep(), b, saga(h.Saga), api.OK)
		b = checkErr(t, send(), b, given{l: h.Lines}, api.OK)
		for _, line := range h.Lines {
			x := has(want, line.Sku)
			x.Hand, x.Sent = x.Hand-line.N, x.Sent+line.N
		}
		checkErr(t, release(), b, saga(h.Saga), api.ErrNone)
	}
	if !equal(b, want) || !ledger.Same(b, settled(want)) {
		t.Errorf("in the end it is %s; want %s", short(b), short(want))
	}
}
