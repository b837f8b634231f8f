package msg_test

import (
	"math"
	"slices"
	"strings"
	"testing"

	"drayman/api"
	"drayman/msg"
)

// parts are the encodings of what an envelope is written as, fit or not: the version,
// the Num, Ask, and the fields of the entry or of the reply.
func parts(x api.Envelope) []string {
	head := []string{wantInt(1), wantInt(x.Num), wantFlag(x.Ask)}
	if x.Ask {
		return append(head, entryParts(x.Entry)...)
	}
	return append(head, replyParts(x.Reply)...)
}

// flagsOf are the places of the flags among the parts of an envelope.
func flagsOf(x api.Envelope) []int {
	if x.Ask {
		return []int{2, 6, 9}
	}
	return []int{2, 7}
}

// raw is what an envelope is written as, fit or not.
func raw(x api.Envelope) string { return strings.Join(parts(x), "") }

// wantTake is the reference of Take.
func wantTake(s string) (api.Envelope, bool) {
	c := cutter{rest: s}
	if c.number() != 1 {
		return api.Envelope{}, false
	}
	x := api.Envelope{Num: c.number(), Ask: c.flag()}
	if x.Ask {
		x.Entry = c.entry()
		x.Service = wantService(x.Entry.Op)
	} else {
		x.Reply = c.reply()
		x.Service = x.Reply.Service
	}
	if c.wrong || c.rest != "" || !wantFit(x) {
		return api.Envelope{}, false
	}
	return x, true
}

// checkTake holds Take of s against the reference; what it takes has s as its
// encoding. It reports whether there was an envelope.
func checkTake(t *testing.T, s string) bool {
	t.Helper()
	want, is := wantTake(s)
	wantErr := api.ErrForm
	if is {
		wantErr = api.OK
	}
	got, err := msg.Take(s)
	if got != want || err != wantErr {
		t.Fatalf("Take of %.300x is %+v, %d, want %+v, %d", s, got, err, want, wantErr)
	}
	if again, err := msg.Put(got); is && (again != s || err != api.OK) {
		t.Fatalf("Put of Take of %.300x is %.300x, %d", s, again, err)
	}
	return is
}

// checkNoTake checks that there is no envelope whose encoding is s.
func checkNoTake(t *testing.T, s string) {
	t.Helper()
	if got, err := msg.Take(s); got != (api.Envelope{}) || err != api.ErrForm {
		t.Errorf("Take of %.300x is %+v, %d", s, got, err)
	}
	checkTake(t, s)
}

// checkPut holds Put against what is wanted.
func checkPut(t *testing.T, x api.Envelope, want string, wantErr api.Errno) {
	t.Helper()
	if got, err := msg.Put(x); got != want || err != wantErr {
		t.Errorf("Put(%+v) is %x, %d, want %x, %d", x, got, err, want, wantErr)
	}
}

// written are envelopes and their encodings, written out; the first is the chapter's
// example.
func written() map[string]api.Envelope {
	return map[string]api.Envelope{
		"\x01\x02\x01\x12\x00\x01\x02\x01\x02\x01\x06\x00\x00\x01\x04\x01\x02":                 {Num: 9, Service: 1, Reply: api.Reply{Service: 1, Id: 1, Saga: 3, Msg: 2, Verdict: 1}},
		"\x01\x02\x01\x02\x00\x01\x04\x01\x0c\x01\x0a\x01\x08\x01\x02\x01\x00\x01\x06":         {Num: 1, Service: 2, Reply: api.Reply{Service: 2, Id: 6, Saga: 5, Step: 4, Back: true, Msg: 128, Verdict: 3}},
		"\x01\x02\x01\x12\x01\x01\x02\x01\x06\x00\x00\x01\x04\x00\x00":                         {Num: 9, Ask: true, Service: 1, Entry: api.Entry{Id: 1, Saga: 3, Op: 2}},
		"\x01\x02\x01\x02\x01\x01\x04\x01\x06\x01\x0a\x01\x01\x08\x02\x02\x58\x01":             {Num: 1, Ask: true, Service: 2, Entry: api.Entry{Id: 2, Saga: 3, Step: 5, Back: true, Op: 4, Sum: 300, Must: true}},
		"\x01\x02\x06\x02\x00\x00\x00\x00\x00\x01\x01\x02\x01\x02\x01\x02\x01\x01\x0c\x00\x00": {Num: most, Ask: true, Service: 1, Entry: api.Entry{Id: 1, Saga: 1, Step: 1, Back: true, Op: 6}},
	}
}

// TestExample is of P23.2: what the chapter names.
func TestExample(t *testing.T) {
	x := api.Envelope{Num: 9, Service: api.Pay, Reply: api.Reply{Service: api.Pay, Id: 1, Saga: 3, Msg: 2, Verdict: api.Good}}
	want := []byte{1, 2, 1, 18, 0, 1, 2, 1, 2, 1, 6, 0, 0, 1, 4, 1, 2}
	s, err := msg.Put(x)
	if len(s) != 17 || s != string(want) || err != api.OK {
		t.Errorf("Put of the example is %x, %d", s, err)
	}
	if got, err := msg.Take(string(want)); got != x || err != api.OK {
		t.Errorf("Take of the example is %+v, %d", got, err)
	}
	if got, err := msg.Take(""); got != (api.Envelope{}) || err != api.ErrForm {
		t.Errorf("Take of nothing is %+v, %d", got, err)
	}
}

// TestPutAndTakeWrittenOut is of P23.2: encodings that are written out.
func TestPutAndTakeWrittenOut(t *testing.T) {
	for s, x := range written() {
		checkPut(t, x, s, api.OK)
		if got, err := msg.Take(s); got != x || err != api.OK {
			t.Errorf("Take of %x is %+v, %d", s, got, err)
		}
		checkTake(t, s)
	}
}

// TestPut is of P23.2: envelopes that are fit, and such as are not for each reason.
func TestPut(t *testing.T) {
	for _, x := range append(fits(), few()...) {
		checkPut(t, x, raw(x), api.OK)
	}
	for _, x := range append(unfit(), api.Envelope{}, api.Envelope{Ask: true}) {
		checkPut(t, x, "", api.ErrArg)
	}
}

// TestTakeOfPutOfEnvelopes is of P23.2 and P23.3: each fit envelope is restored from
// its encoding, and no two have the same.
func TestTakeOfPutOfEnvelopes(t *testing.T) {
	of := map[string]api.Envelope{}
	for _, x := range append(fits(), few()...) {
		s, err := msg.Put(x)
		if err != api.OK {
			t.Fatalf("Put(%+v) is %d", x, err)
		}
		if got, err := msg.Take(s); got != x || err != api.OK {
			t.Errorf("Take of Put is %+v, %d, of %+v", got, err, x)
		}
		if y, is := of[s]; is && y != x {
			t.Errorf("Put of %+v and of %+v is %x", x, y, s)
		}
		of[s] = x
	}
	if len(of) < 400 {
		t.Errorf("only %d envelopes are different", len(of))
	}
}

// TestTakeOfUnfit is of P23.2 and P23.3: the encodings that envelopes would have that
// are not fit for their Num, or for what is in them.
func TestTakeOfUnfit(t *testing.T) {
	for _, x := range few() {
		for _, num := range badIds() {
			checkNoTake(t, raw(set(x, func(x *api.Envelope) *int { return &x.Num }, num)))
		}
	}
	for i, x := range append(badEntries(), onlyEntries()...) {
		checkNoTake(t, raw(asks(i+1, x)))
	}
	for i, r := range append(badReplies(), onlyReplies()...) {
		checkNoTake(t, raw(tells(i+1, r)))
	}
}

// TestTakeOfNotWritten is of P23.2 and P23.3: what is not written, the Service and the
// one that is not asked for, is in a taken envelope what it is in a fit one.
func TestTakeOfNotWritten(t *testing.T) {
	taken := 0
	for _, x := range unfit() {
		if !checkTake(t, raw(x)) {
			continue
		}
		taken++
		y, err := msg.Take(raw(x))
		if y == x || !wantFit(y) || raw(y) != raw(x) || y.Num != x.Num || y.Ask != x.Ask || err != api.OK {
			t.Errorf("Take of what %+v would be written as is %+v, %d", x, y, err)
		}
	}
	if taken < 100 {
		t.Errorf("only %d were taken", taken)
	}
}

// TestTakeOfVersion is of P23.2: each number as the version; only 1 is one.
func TestTakeOfVersion(t *testing.T) {
	for _, x := range few() {
		rest := strings.Join(parts(x)[1:], "")
		for _, n := range slices.Concat(far(), badIds(), []int{0, 1, 2, 3, 4, 9, 10, 16, 255, 256, 257}) {
			if n == 1 {
				if !checkTake(t, wantInt(n)+rest) {
					t.Errorf("%+v is not taken", x)
				}
				continue
			}
			checkNoTake(t, wantInt(n)+rest)
		}
		checkNoTake(t, rest)
		checkNoTake(t, wantInt(1)+wantInt(1)+rest)
	}
}

// TestTakeOfFlags is of P23.2: each byte in place of each flag.
func TestTakeOfFlags(t *testing.T) {
	for _, x := range few() {
		for _, at := range flagsOf(x) {
			for b := range 256 {
				p := parts(x)
				p[at] = string([]byte{byte(b)})
				is := checkTake(t, strings.Join(p, ""))
				// An entry is no reply, nor the other way round, so that Ask is only
				// what it was; the other flags are either.
				want := b < 2
				if at == 2 {
					want = p[at] == wantFlag(x.Ask)
				}
				if is != want {
					t.Errorf("the byte %d at %d of %x: %t", b, at, raw(x), is)
				}
			}
		}
	}
}

// TestTakeOfLongerNumbers is of P23.2 and P23.3: a number that is written longer than
// it need be, or that has more bytes than any, at each place.
func TestTakeOfLongerNumbers(t *testing.T) {
	for _, x := range few() {
		for at, part := range parts(x) {
			if slices.Contains(flagsOf(x), at) {
				continue
			}
			for _, other := range append(longer(part), "\x09\x01"+strings.Repeat("\x00", 8), "\xff"+strings.Repeat("\xff", 255)) {
				p := parts(x)
				p[at] = other
				checkNoTake(t, strings.Join(p, ""))
			}
		}
	}
}

// TestTakeOfNumbers is of P23.2: each number at each place.
func TestTakeOfNumbers(t *testing.T) {
	taken := 0
	for _, x := range few() {
		for at := range parts(x) {
			for _, n := range slices.Concat(far(), badIds(), goodIds(), []int{0, 1, 2, 3, 4, 5, 6, 7, 8}) {
				p := parts(x)
				p[at] = wantInt(n)
				if checkTake(t, strings.Join(p, "")) {
					taken++
				}
			}
		}
	}
	if taken < 500 {
		t.Errorf("only %d were taken", taken)
	}
}

// TestTakeOfCutEnvelopes is of P23.2: encodings that are cut short at each octet, or
// lack octets in the middle or at the beginning, or have some behind.
func TestTakeOfCutEnvelopes(t *testing.T) {
	for _, x := range append(fits(), few()...) {
		s := raw(x)
		for i := range s {
			checkNoTake(t, s[:i])
			checkTake(t, s[i+1:])
			checkTake(t, s[:i]+s[i+1:])
			checkTake(t, s[:i]+"\x00"+s[i:])
		}
		for _, more := range []string{"\x00", "\x01", "\xff", "\x00\x00", "\x01\x02", "abc", s, strings.Repeat("\x00", 300)} {
			checkNoTake(t, s+more)
			checkTake(t, more+s)
		}
	}
	for _, s := range []string{"\x00", "\x01", "\x01\x02", "\x01\x02\x01\x02", "\x01\x02\x01\x02\x00", "\x01\x02\x01\x02\x01", "\x01\x02\x01\x02\x00" + strings.Repeat("\x00", 7), "\x01\x02\x01\x02\x01" + strings.Repeat("\x00", 7)} {
		checkNoTake(t, s)
	}
}

// TestTakeOfParts is of P23.2: encodings that lack one of the fields, have one twice,
// or two exchanged.
func TestTakeOfParts(t *testing.T) {
	for _, x := range few() {
		p := parts(x)
		for i := range p {
			checkTake(t, strings.Join(slices.Delete(slices.Clone(p), i, i+1), ""))
			checkTake(t, strings.Join(slices.Insert(slices.Clone(p), i, p[i]), ""))
			for j := range i {
				q := slices.Clone(p)
				q[i], q[j] = q[j], q[i]
				checkTake(t, strings.Join(q, ""))
			}
		}
	}
}

// TestTakeOfChangedEnvelopes is of P23.2 and P23.3: encodings of which each byte is
// each other, or has each other ahead of it.
func TestTakeOfChangedEnvelopes(t *testing.T) {
	taken := 0
	for _, x := range few() {
		s := raw(x)
		for i := range s {
			for b := range 256 {
				c := string([]byte{byte(b)})
				for _, changed := range []string{s[:i] + c + s[i+1:], s[:i] + c + s[i:]} {
					if checkTake(t, changed) {
						taken++
					}
				}
			}
		}
	}
	if taken < 1000 {
		t.Errorf("only %d were taken", taken)
	}
}

// TestTakeOfShortEnvelopes is of P23.2 and P23.3: all short strings of some bytes
// behind what each envelope may begin with.
func TestTakeOfShortEnvelopes(t *testing.T) {
	taken := 0
	var check func(s string, left int)
	check = func(s string, left int) {
		if checkTake(t, s) {
			taken++
		}
		if left == 0 {
			return
		}
		for _, b := range []byte{0, 1, 2, 4, 8} {
			check(s+string([]byte{b}), left-1)
		}
	}
	check("", 5)
	check("\x01\x02\x01\x02", 5)
	check("\x01\x02\x01\x02\x01\x01\x02\x01\x02", 6)
	check("\x01\x02\x01\x02\x00\x01\x02\x01\x02\x01\x02", 6)
	if taken < 20 {
		t.Errorf("only %d were taken", taken)
	}
}

// TestTakeOfOtherBytes is of P23.2: text, and far more octets than any envelope has.
func TestTakeOfOtherBytes(t *testing.T) {
	for _, s := range []string{"a", "abc", "1 9 0", "\x00\x00", "\xff", "ä", strings.Repeat("\x00", 1<<16), strings.Repeat("\x01", 1<<16), strings.Repeat("\x01\x02", 1<<12), strings.Repeat("\xff", 1<<16)} {
		checkNoTake(t, s)
	}
	s := wantInt(1) + wantInt(math.MaxInt) + wantFlag(true) + wantPutEntry(few()[0].Entry)
	checkNoTake(t, s)
}
