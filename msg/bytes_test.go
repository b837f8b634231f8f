package msg_test

import (
	"math"
	"math/big"
	"slices"
	"strings"
	"testing"

	"drayman/api"
	"drayman/msg"
	"drayman/wire"
)

// wantInt is the encoding of a number, as chapter 3 defines it.
func wantInt(n int) string {
	x := big.NewInt(int64(n))
	x.Lsh(x, 1)
	if n < 0 {
		x.Not(x)
	}
	return string(rune(len(x.Bytes()))) + string(x.Bytes())
}

// wantFlag is the encoding of a flag.
func wantFlag(b bool) string {
	return map[bool]string{false: "\x00", true: "\x01"}[b]
}

// entryParts are the encodings of the fields of an entry, in their order.
func entryParts(x api.Entry) []string {
	return []string{wantInt(x.Id), wantInt(x.Saga), wantInt(x.Step), wantFlag(x.Back), wantInt(x.Op), wantInt(x.Sum), wantFlag(x.Must)}
}

// replyParts are the encodings of the fields of a reply, in their order.
func replyParts(r api.Reply) []string {
	return []string{wantInt(r.Service), wantInt(r.Id), wantInt(r.Saga), wantInt(r.Step), wantFlag(r.Back), wantInt(r.Msg), wantInt(r.Verdict)}
}

// wantPutEntry is the encoding of an entry.
func wantPutEntry(x api.Entry) string { return strings.Join(entryParts(x), "") }

// wantPutReply is the encoding of a reply.
func wantPutReply(r api.Reply) string { return strings.Join(replyParts(r), "") }

// cutter reads from the beginning of a text; it goes wrong where something is not
// there.
type cutter struct {
	rest  string
	wrong bool
}

// number reads a number.
func (c *cutter) number() int {
	s := c.rest
	if c.wrong || s == "" || s[0] > 8 || len(s) <= int(s[0]) || s[0] > 0 && s[1] == 0 {
		*c = cutter{wrong: true}
		return 0
	}
	size := 1 + int(s[0])
	x := new(big.Int).SetBytes([]byte(s[1:size]))
	odd := x.Bit(0) == 1
	x.Rsh(x, 1)
	if odd {
		x.Not(x)
	}
	c.rest = s[size:]
	return int(x.Int64())
}

// flag reads a flag.
func (c *cutter) flag() bool {
	s := c.rest
	if c.wrong || s == "" || s[0] > 1 {
		*c = cutter{wrong: true}
		return false
	}
	c.rest = s[1:]
	return s[0] == 1
}

// entry reads an entry.
func (c *cutter) entry() api.Entry {
	var x api.Entry
	x.Id = c.number()
	x.Saga = c.number()
	x.Step = c.number()
	x.Back = c.flag()
	x.Op = c.number()
	x.Sum = c.number()
	x.Must = c.flag()
	if c.wrong {
		return api.Entry{}
	}
	return x
}

// reply reads a reply.
func (c *cutter) reply() api.Reply {
	var r api.Reply
	r.Service = c.number()
	r.Id = c.number()
	r.Saga = c.number()
	r.Step = c.number()
	r.Back = c.flag()
	r.Msg = c.number()
	r.Verdict = c.number()
	if c.wrong {
		return api.Reply{}
	}
	return r
}

// checkStand holds where a reader stands against where the reference does.
func checkStand(t *testing.T, s string, r *wire.Reader, c cutter) {
	t.Helper()
	if r.Left() != len(c.rest) || r.Done() != (!c.wrong && c.rest == "") {
		t.Fatalf("behind what %.300x begins with there are %d bytes left, want %d; done is %t", s, r.Left(), len(c.rest), r.Done())
	}
}

// checkTakeEntry holds what TakeEntry answers of s against the reference, and
// where the reader stands then. It reports whether there was an entry.
func checkTakeEntry(t *testing.T, s string) bool {
	t.Helper()
	c, r := cutter{rest: s}, wire.New(s)
	want := c.entry()
	if got := msg.TakeEntry(r); got != want {
		t.Fatalf("TakeEntry of %.300x is %+v, want %+v", s, got, want)
	}
	checkStand(t, s, r, c)
	return !c.wrong
}

// checkTakeReply holds what TakeReply answers of s against the reference, and
// where the reader stands then. It reports whether there was a reply.
func checkTakeReply(t *testing.T, s string) bool {
	t.Helper()
	c, r := cutter{rest: s}, wire.New(s)
	want := c.reply()
	if got := msg.TakeReply(r); got != want {
		t.Fatalf("TakeReply of %.300x is %+v, want %+v", s, got, want)
	}
	checkStand(t, s, r, c)
	return !c.wrong
}

// far are numbers of each length that an encoding has, on both sides of 0, with the
// least and the greatest ones.
func far() []int {
	l := []int{0, 1, -1, 2, math.MinInt, math.MinInt + 1, math.MaxInt - 1, math.MaxInt}
	for shift := 6; shift < 63; shift++ {
		l = append(l, 1<<shift-1, 1<<shift, -1<<shift, -1<<shift-1)
	}
	return l
}

// anyEntries are entries of any numbers, fit and not.
func anyEntries() []api.Entry {
	l := slices.Concat(goodEntries(), badEntries(), onlyEntries())
	for i, n := range far() {
		l = append(l, api.Entry{Id: n, Saga: n + 1, Step: n + 2, Back: i%2 == 0, Op: n + 3, Sum: n + 4, Must: i%4 < 2}, api.Entry{Id: n, Saga: n, Step: n, Op: n, Sum: n, Back: true, Must: true})
		for _, at := range entryNumbers() {
			l = append(l, set(api.Entry{Id: 5, Saga: 6, Step: 7, Op: 8, Sum: 9}, at, n))
		}
	}
	return l
}

// anyReplies are replies of any numbers, fit and not.
func anyReplies() []api.Reply {
	l := slices.Concat(goodReplies(), badReplies(), onlyReplies())
	for i, n := range far() {
		l = append(l, api.Reply{Service: n, Id: n + 1, Saga: n + 2, Step: n + 3, Back: i%2 == 0, Msg: n + 4, Verdict: n + 5}, api.Reply{Service: n, Id: n, Saga: n, Step: n, Msg: n, Verdict: n, Back: true})
		for _, at := range replyNumbers() {
			l = append(l, set(api.Reply{Service: 5, Id: 6, Saga: 7, Step: 8, Msg: 9, Verdict: 10}, at, n))
		}
	}
	return l
}

// writtenEntries are entries and their encodings, written out.
func writtenEntries() map[string]api.Entry {
	return map[string]api.Entry{
		"\x00\x00\x00\x00\x00\x00\x00":                                                 {},
		"\x00\x00\x00\x01\x00\x00\x00":                                                 {Back: true},
		"\x00\x00\x00\x00\x00\x00\x01":                                                 {Must: true},
		"\x01\x02\x01\x04\x01\x06\x00\x01\x08\x01\x0a\x00":                             {Id: 1, Saga: 2, Step: 3, Op: 4, Sum: 5},
		"\x01\x02\x01\x04\x01\x06\x01\x01\x08\x01\x0a\x01":                             {Id: 1, Saga: 2, Step: 3, Back: true, Op: 4, Sum: 5, Must: true},
		"\x06\x02\x00\x00\x00\x00\x00\x02\x01\x00\x00\x01\x01\x04\x00\x00":             {Id: most, Saga: 128, Back: true, Op: 2},
		"\x01\x01\x01\x03\x01\x05\x00\x01\x07\x01\x09\x01":                             {Id: -1, Saga: -2, Step: -3, Op: -4, Sum: -5, Must: true},
		"\x08\xff\xff\xff\xff\xff\xff\xff\xfe\x00\x00\x00\x00\x00\x00":                 {Id: math.MaxInt},
		"\x00\x00\x00\x00\x00\x08\xff\xff\xff\xff\xff\xff\xff\xff\x00":                 {Sum: math.MinInt},
		"\x00\x00\x00\x00\x08\xff\xff\xff\xff\xff\xff\xff\xff\x01\x01\x01":             {Op: math.MinInt, Sum: -1, Must: true},
		"\x00\x08\xff\xff\xff\xff\xff\xff\xff\xfe\x01\x03\x01\x00\x03\x20\x00\x00\x00": {Saga: math.MaxInt, Step: -2, Back: true, Sum: 1 << 20},
	}
}

// writtenReplies are replies and their encodings, written out.
func writtenReplies() map[string]api.Reply {
	return map[string]api.Reply{
		"\x00\x00\x00\x00\x00\x00\x00":                                     {},
		"\x00\x00\x00\x00\x01\x00\x00":                                     {Back: true},
		"\x01\x02\x01\x02\x01\x06\x00\x00\x01\x04\x01\x02":                 {Service: 1, Id: 1, Saga: 3, Msg: 2, Verdict: 1},
		"\x01\x02\x01\x04\x01\x06\x01\x08\x01\x01\x0a\x01\x0c":             {Service: 1, Id: 2, Saga: 3, Step: 4, Back: true, Msg: 5, Verdict: 6},
		"\x01\x04\x06\x02\x00\x00\x00\x00\x00\x02\x01\x00\x00\x01\x00\x00": {Service: 2, Id: most, Saga: 128, Back: true},
		"\x01\x01\x01\x03\x01\x05\x01\x07\x00\x01\x09\x01\x0b":             {Service: -1, Id: -2, Saga: -3, Step: -4, Msg: -5, Verdict: -6},
		"\x08\xff\xff\xff\xff\xff\xff\xff\xfe\x00\x00\x00\x00\x00\x00":     {Service: math.MaxInt},
		"\x00\x00\x00\x00\x00\x00\x08\xff\xff\xff\xff\xff\xff\xff\xff":     {Verdict: math.MinInt},
	}
}

// checkPutEntry holds PutEntry against what is wanted.
func checkPutEntry(t *testing.T, x api.Entry, want string) {
	t.Helper()
	if got := msg.PutEntry(x); got != want {
		t.Errorf("PutEntry(%+v) is %x, want %x", x, got, want)
	}
}

// checkPutReply holds PutReply against what is wanted.
func checkPutReply(t *testing.T, r api.Reply, want string) {
	t.Helper()
	if got := msg.PutReply(r); got != want {
		t.Errorf("PutReply(%+v) is %x, want %x", r, got, want)
	}
}

// TestPutEntry is of P23.1: encodings that are written out, and those of entries of
// any numbers.
func TestPutEntry(t *testing.T) {
	for want, x := range writtenEntries() {
		checkPutEntry(t, x, want)
	}
	for _, x := range anyEntries() {
		checkPutEntry(t, x, wantPutEntry(x))
	}
}

// TestPutReply is of P23.1: encodings that are written out, and those of replies of
// any numbers.
func TestPutReply(t *testing.T) {
	for want, r := range writtenReplies() {
		checkPutReply(t, r, want)
	}
	for _, r := range anyReplies() {
		checkPutReply(t, r, wantPutReply(r))
	}
}

// TestPutOfDifferent is of P23.3: no two entries and no two replies have the same
// encoding, nor does one begin with another's.
func TestPutOfDifferent(t *testing.T) {
	entries, replies := map[string]api.Entry{}, map[string]api.Reply{}
	var entryTexts, replyTexts []string
	for _, x := range anyEntries() {
		s := msg.PutEntry(x)
		if y, is := entries[s]; is && y != x {
			t.Errorf("PutEntry of %+v and of %+v is %x", x, y, s)
		}
		entries[s] = x
		entryTexts = append(entryTexts, s)
	}
	for _, r := range anyReplies() {
		s := msg.PutReply(r)
		if y, is := replies[s]; is && y != r {
			t.Errorf("PutReply of %+v and of %+v is %x", r, y, s)
		}
		replies[s] = r
		replyTexts = append(replyTexts, s)
	}
	for _, l := range [][]string{entryTexts, replyTexts} {
		slices.Sort(l)
		l = slices.Compact(l)
		for i := 1; i < len(l); i++ {
			if strings.HasPrefix(l[i], l[i-1]) {
				t.Errorf("%x begins with %x", l[i], l[i-1])
			}
		}
	}
}
