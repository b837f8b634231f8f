package ledger_test

import (
	"slices"
	"strconv"
	"testing"

	"drayman/api"
	"drayman/ledger"
)

// given is what a call is handed beside a book.
type given struct {
	sku     string
	n, saga int
	l       []api.Line
	until   int
}

// call is a function that answers a book, and its reference.
type call struct {
	name     string
	do, want func(b ledger.Book, g given) (ledger.Book, api.Errno)
}

// calls are all functions that answer a book, in the order of the chapter.
func calls() []call {
	return []call{
		{"Restock", func(b ledger.Book, g given) (ledger.Book, api.Errno) { return ledger.Restock(b, g.sku, g.n) }, wantRestock},
		{"Adjust", func(b ledger.Book, g given) (ledger.Book, api.Errno) { return ledger.Adjust(b, g.sku, g.n) }, wantAdjust},
		{"Hold", func(b ledger.Book, g given) (ledger.Book, api.Errno) { return ledger.Hold(b, g.saga, g.l, g.until) }, wantPut(hand, held)},
		{"Release", func(b ledger.Book, g given) (ledger.Book, api.Errno) { return ledger.Release(b, g.saga) }, wantDrop(held, hand)},
		{"Keep", func(b ledger.Book, g given) (ledger.Book, api.Errno) { return ledger.Keep(b, g.saga) }, wantDrop(held, kept)},
		{"Unkeep", func(b ledger.Book, g given) (ledger.Book, api.Errno) { return ledger.Unkeep(b, g.saga, g.l, g.until) }, wantPut(kept, held)},
		{"Send", func(b ledger.Book, g given) (ledger.Book, api.Errno) { return ledger.Send(b, g.l) }, wantSend},
	}
}

// The calls one by one.
func restock() call { return calls()[0] }
func adjust() call  { return calls()[1] }
func holding() call { return calls()[2] }
func release() call { return calls()[3] }
func keep() call    { return calls()[4] }
func unkeep() call  { return calls()[5] }
func send() call    { return calls()[6] }

// What calls are handed: a Sku and a number; a saga; a saga, lines and an Until;
// lines alone.
func sku(s string, n int) given { return given{sku: s, n: n} }
func saga(n int) given          { return given{saga: n} }
func put(saga int, until int, s string) given {
	return given{saga: saga, until: until, l: of(s)}
}
func sent(s string) given { return given{l: of(s)} }

// putOf is what Hold and Unkeep are handed for a hold.
func putOf(h api.Hold) given { return given{saga: h.Saga, l: h.Lines, until: h.Until} }

// text writes a call for a message.
func (c call) text(b ledger.Book, g given) string {
	return c.name + " of " + strconv.Quote(g.sku[:min(len(g.sku), 30)]) + " " + strconv.Itoa(g.n) + ", saga " + strconv.Itoa(g.saga) + " until " + strconv.Itoa(g.until) + ", lines " + shortLines(g.l) + " to " + short(b)
}

// The counts of a Sku.
func hand(x *api.Sku) *int { return &x.Hand }
func held(x *api.Sku) *int { return &x.Held }
func kept(x *api.Sku) *int { return &x.Kept }

// has is the Sku of a book with this Name, if it has one.
func has(b ledger.Book, s string) *api.Sku {
	for i := range b.Skus {
		if b.Skus[i].Name == s {
			return &b.Skus[i]
		}
	}
	return nil
}

// wantRestock is the reference of Restock: error by error, and the Skus sorted.
func wantRestock(b ledger.Book, g given) (ledger.Book, api.Errno) {
	if !wantFit(b) {
		return ledger.Book{}, api.ErrBad
	}
	if !nameForm.MatchString(g.sku) {
		return ledger.Book{}, api.ErrForm
	}
	b = copyOf(b)
	if has(b, g.sku) == nil {
		if len(b.Skus) >= maxSkus {
			return ledger.Book{}, api.ErrFull
		}
		b.Skus = append(b.Skus, api.Sku{Name: g.sku})
		slices.SortFunc(b.Skus, func(x, y api.Sku) int {
			if x.Name < y.Name {
				return -1
			}
			return 1
		})
	}
	x := has(b, g.sku)
	if g.n < 1 || g.n > most {
		return ledger.Book{}, api.ErrRange
	}
	if x.In+g.n > most {
		return ledger.Book{}, api.ErrOver
	}
	x.Hand, x.In = x.Hand+g.n, x.In+g.n
	return b, api.OK
}

// wantAdjust is the reference of Adjust.
func wantAdjust(b ledger.Book, g given) (ledger.Book, api.Errno) {
	if !wantFit(b) {
		return ledger.Book{}, api.ErrBad
	}
	b = copyOf(b)
	x := has(b, g.sku)
	switch {
	case x == nil:
		return ledger.Book{}, api.ErrNone
	case g.n == 0 || g.n < -most || g.n > most:
		return ledger.Book{}, api.ErrRange
	case x.Hand+g.n < 0:
		return ledger.Book{}, api.ErrStock
	case x.In+g.n > most:
		return ledger.Book{}, api.ErrOver
	}
	x.Hand, x.In = x.Hand+g.n, x.In+g.n
	return b, api.OK
}

// transfer moves lines of a book from one count to another, or answers false if
// there is too little of one of them.
func transfer(b ledger.Book, l []api.Line, from, to func(x *api.Sku) *int) bool {
	for _, line := range l {
		x := has(b, line.Sku)
		if x == nil || *from(x) < line.N {
			return false
		}
	}
	for _, line := range l {
		x := has(b, line.Sku)
		*from(x) -= line.N
		*to(x) += line.N
	}
	return true
}

// wantPut is the reference of Hold and of Unkeep, which take from another count.
func wantPut(from, to func(x *api.Sku) *int) func(b ledger.Book, g given) (ledger.Book, api.Errno) {
	return func(b ledger.Book, g given) (ledger.Book, api.Errno) {
		h := api.Hold{Saga: g.saga, Lines: g.l, Until: g.until}
		switch {
		case !wantFit(b):
			return ledger.Book{}, api.ErrBad
		case !wantHold(h):
			return ledger.Book{}, api.ErrArg
		case slices.ContainsFunc(b.Holds, func(x api.Hold) bool { return x.Saga == h.Saga }):
			return ledger.Book{}, api.ErrTwice
		case len(b.Holds) >= maxSagas:
			return ledger.Book{}, api.ErrFull
		}
		b = copyOf(ledger.Book{Skus: b.Skus, Holds: append(b.Holds[:len(b.Holds):len(b.Holds)], h)})
		slices.SortFunc(b.Holds, func(x, y api.Hold) int { return x.Saga - y.Saga })
		if !transfer(b, g.l, from, to) {
			return ledger.Book{}, api.ErrStock
		}
		return b, api.OK
	}
}

// wantDrop is the reference of Release and of Keep, which give to another count.
func wantDrop(from, to func(x *api.Sku) *int) func(b ledger.Book, g given) (ledger.Book, api.Errno) {
	return func(b ledger.Book, g given) (ledger.Book, api.Errno) {
		if !wantFit(b) {
			return ledger.Book{}, api.ErrBad
		}
		b = copyOf(b)
		for i, h := range b.Holds {
			if h.Saga == g.saga {
				transfer(b, h.Lines, from, to)
				b.Holds = slices.Delete(b.Holds, i, i+1)
				return b, api.OK
			}
		}
		return ledger.Book{}, api.ErrNone
	}
}

// wantSend is the reference of Send.
func wantSend(b ledger.Book, g given) (ledger.Book, api.Errno) {
	if !wantFit(b) {
		return ledger.Book{}, api.ErrBad
	}
	if !wantLines(g.l) {
		return ledger.Book{}, api.ErrArg
	}
	b = copyOf(b)
	if !transfer(b, g.l, kept, func(x *api.Sku) *int { return &x.Sent }) {
		return ledger.Book{}, api.ErrStock
	}
	return b, api.OK
}

// check holds an answer of a call against its reference, and what was handed in
// against what it was.
func check(t *testing.T, c call, b ledger.Book, g given) (ledger.Book, api.Errno) {
	t.Helper()
	want, wantErr := c.want(b, g)
	return checkIs(t, c, b, g, want, wantErr)
}

// checkIs holds an answer of a call against what is wanted. A book must be fit;
// beside an error there is none.
func checkIs(t *testing.T, c call, b ledger.Book, g given, want ledger.Book, wantErr api.Errno) (ledger.Book, api.Errno) {
	t.Helper()
	before, lines := copyOf(b), slices.Clone(g.l)
	got, err := c.do(b, g)
	if err != wantErr || !equal(got, want) {
		t.Fatalf("%s is %s, %d; want %s, %d", c.text(before, g), short(got), err, short(want), wantErr)
	}
	if err != api.OK && (len(got.Skus) > 0 || len(got.Holds) > 0) {
		t.Fatalf("%s tells %s beside %d", c.text(before, g), short(got), err)
	}
	if err == api.OK && (!wantFit(got) || !ledger.Fit(got) || !ledger.Same(got, want)) {
		t.Fatalf("%s is %s, which is not fit", c.text(before, g), short(got))
	}
	if !equal(b, before) || !slices.Equal(g.l, lines) {
		t.Fatalf("%s left %s, %s", c.text(before, g), short(b), shortLines(g.l))
	}
	return got, err
}

// checkErr holds an answer of a call against its reference, its error against
// the wanted one, and looks at its memory.
func checkErr(t *testing.T, c call, b ledger.Book, g given, want api.Errno) ledger.Book {
	t.Helper()
	got, err := check(t, c, b, g)
	if err != want {
		t.Fatalf("%s is %d, not %d", c.text(b, g), err, want)
	}
	checkMemory(t, c, b, g)
	return got
}
