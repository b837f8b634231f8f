package msg_test

import (
	"slices"
	"strings"
	"testing"

	"drayman/api"
	"drayman/msg"
	"drayman/wire"
)

// kind is one of the two encodings that a reader reads: that of an entry, or that of
// a reply.
type kind struct {
	name string
	// texts are the encodings of any values, and of some few ones.
	texts, some func() []string
	// check holds what is taken from the beginning of a text against the reference,
	// and reports whether there was something.
	check func(t *testing.T, s string) bool
	// again takes from a reader, and is the encoding of what it took: empty if that
	// is the zero value.
	again func(r *wire.Reader) string
	// parts are the encodings of the fields of a value.
	parts []string
	// flags are the places of the flags among them.
	flags []int
}

// kinds are both.
func kinds() []kind {
	entry := api.Entry{Id: 300, Saga: 1 << 20, Step: -1, Back: true, Op: 6, Sum: most, Must: true}
	reply := api.Reply{Service: 2, Id: most, Saga: 300, Step: -129, Back: true, Msg: 1 << 20, Verdict: 3}
	return []kind{
		{"entry", entryTexts, func() []string { return textsOf(wantPutEntry, entry, few()[0].Entry, few()[1].Entry, api.Entry{}) }, checkTakeEntry, entryAgain, entryParts(entry), []int{3, 6}},
		{"reply", replyTexts, func() []string { return textsOf(wantPutReply, reply, few()[3].Reply, few()[4].Reply, api.Reply{}) }, checkTakeReply, replyAgain, replyParts(reply), []int{4}},
	}
}

// textsOf are the encodings of some values.
func textsOf[T any](put func(T) string, l ...T) []string {
	var texts []string
	for _, x := range l {
		texts = append(texts, put(x))
	}
	return texts
}

// entryTexts are the encodings of any entries.
func entryTexts() []string { return textsOf(wantPutEntry, anyEntries()...) }

// replyTexts are the encodings of any replies.
func replyTexts() []string { return textsOf(wantPutReply, anyReplies()...) }

// entryAgain takes an entry, and puts it again.
func entryAgain(r *wire.Reader) string {
	x := msg.TakeEntry(r)
	if x == (api.Entry{}) {
		return ""
	}
	return msg.PutEntry(x)
}

// replyAgain takes a reply, and puts it again.
func replyAgain(r *wire.Reader) string {
	x := msg.TakeReply(r)
	if x == (api.Reply{}) {
		return ""
	}
	return msg.PutReply(x)
}

// checkNone checks that a reader has nothing, and is bad behind that, also when it is
// asked again.
func checkNone(t *testing.T, k kind, r *wire.Reader, what string) {
	t.Helper()
	for range 3 {
		if got := k.again(r); got != "" || r.Done() || r.Left() != 0 {
			t.Errorf("the %s of %.300s is %x; %d bytes are left; done is %t", k.name, what, got, r.Left(), r.Done())
		}
	}
}

// TestTakeEntry is of P23.1: encodings that are written out.
func TestTakeEntry(t *testing.T) {
	for s, want := range writtenEntries() {
		r := wire.New(s)
		if got := msg.TakeEntry(r); got != want || !r.Done() {
			t.Errorf("TakeEntry of %x is %+v; done is %t", s, got, r.Done())
		}
	}
	for _, s := range []string{"", "\x00", "\x00\x00\x00\x00\x00\x00", "\x00\x00\x00\x00\x00\x00\x02", "\x00\x00\x00\x02\x00\x00\x00", "\x09\x00\x00\x00\x00\x00\x00", "\x01\x00\x00\x00\x00\x00\x00\x00",
		"\x01\x02\x01\x04\x01\x06\x00\x01\x08\x01\x0a", "\x01\x02\x01\x04\x01\x06\x00\x01\x08\x01\x0a\xff", "\x01\x02\x01\x04\x01\x06\x01\x08\x00\x01\x0a\x01\x0c", "\x01\x02\x02\x00\x04\x01\x06\x00\x01\x08\x01\x0a\x00"} {
		r := wire.New(s)
		if got := msg.TakeEntry(r); got != (api.Entry{}) || r.Left() != 0 || r.Done() {
			t.Errorf("TakeEntry of %x is %+v; done is %t", s, got, r.Done())
		}
	}
}

// TestTakeReply is of P23.1: encodings that are written out.
func TestTakeReply(t *testing.T) {
	for s, want := range writtenReplies() {
		r := wire.New(s)
		if got := msg.TakeReply(r); got != want || !r.Done() {
			t.Errorf("TakeReply of %x is %+v; done is %t", s, got, r.Done())
		}
	}
	for _, s := range []string{"", "\x00", "\x00\x00\x00\x00\x00\x00", "\x00\x00\x00\x00\x02\x00\x00", "\x00\x00\x00\x00\x00\x00\x09", "\x09\x00\x00\x00\x00\x00\x00", "\x00\x00\x00\x00\x00\x00\x01\x00",
		"\x01\x02\x01\x02\x01\x06\x00\x00\x01\x04\x01", "\x01\x02\x01\x02\x01\x06\x00\x00\x01\x04", "\x01\x02\x01\x02\x01\x06\x00\x03\x01\x04\x01\x02", "\x01\x02\x01\x02\x01\x06\x00\x00\x01\x04\x02\x00\x02"} {
		r := wire.New(s)
		if got := msg.TakeReply(r); got != (api.Reply{}) || r.Left() != 0 || r.Done() {
			t.Errorf("TakeReply of %x is %+v; done is %t", s, got, r.Done())
		}
	}
}

// TestTakeOfPut is of P23.1 and P23.3: what was put is there again, alone and with
// octets behind it, which stay.
func TestTakeOfPut(t *testing.T) {
	for _, more := range []string{"", "\x00", "\xff", "abc", "\x00\x00", strings.Repeat("\x01", 300)} {
		for _, x := range anyEntries() {
			r := wire.New(msg.PutEntry(x) + more)
			if got := msg.TakeEntry(r); got != x || r.Left() != len(more) || r.Done() != (more == "") {
				t.Errorf("TakeEntry of PutEntry is %+v, and %d bytes are left, of %+v", got, r.Left(), x)
			}
		}
		for _, x := range anyReplies() {
			r := wire.New(msg.PutReply(x) + more)
			if got := msg.TakeReply(r); got != x || r.Left() != len(more) || r.Done() != (more == "") {
				t.Errorf("TakeReply of PutReply is %+v, and %d bytes are left, of %+v", got, r.Left(), x)
			}
		}
	}
}

// TestTakeOfSeveral is of P23.1 and P23.3: entries and replies behind each other,
// with something else ahead of each.
func TestTakeOfSeveral(t *testing.T) {
	entries, replies := anyEntries(), anyReplies()
	var s strings.Builder
	for i, x := range entries {
		y := replies[i%len(replies)]
		s.WriteString(wire.Int(i) + msg.PutEntry(x) + wire.Text("ab") + msg.PutReply(y) + wire.Flag(true) + msg.PutReply(y) + msg.PutEntry(x))
	}
	r := wire.New(s.String())
	for i, x := range entries {
		y := replies[i%len(replies)]
		if got := r.Int(i, i); got != i {
			t.Fatalf("ahead of entry %d there is %d", i, got)
		}
		first := msg.TakeEntry(r)
		word := r.Text(2)
		second := msg.TakeReply(r)
		flag := r.Flag()
		third, last := msg.TakeReply(r), msg.TakeEntry(r)
		if first != x || word != "ab" || second != y || !flag || third != y || last != x {
			t.Fatalf("row %d is %+v %q %+v %t %+v %+v", i, first, word, second, flag, third, last)
		}
	}
	if !r.Done() {
		t.Errorf("%d bytes are left behind all", r.Left())
	}
	if got := msg.TakeEntry(r); got != (api.Entry{}) || r.Done() {
		t.Errorf("TakeEntry behind all is %+v", got)
	}
}

// TestTakeOfCut is of P23.1: each beginning of an encoding is none, and each end of
// it, and with more behind where it was cut, is what the reference says.
func TestTakeOfCut(t *testing.T) {
	for _, k := range kinds() {
		for _, s := range k.texts() {
			for i := range s {
				checkNone(t, k, wire.New(s[:i]), "a beginning")
				k.check(t, s[:i])
				k.check(t, s[i:])
				k.check(t, s[:i]+"\x01\x02\x01\x02")
				k.check(t, s[:i]+strings.Repeat("\x00", 20))
			}
		}
	}
}

// TestTakeOfChanged is of P23.1: encodings of which each byte is each other, or has
// each other ahead of it.
func TestTakeOfChanged(t *testing.T) {
	for _, k := range kinds() {
		taken := 0
		for _, s := range k.some() {
			for i := range s {
				for b := range 256 {
					c := string([]byte{byte(b)})
					for _, changed := range []string{s[:i] + c + s[i+1:], s[:i] + c + s[i:], s[:i] + c + s[i+1:] + "\x00\x01\x02"} {
						if k.check(t, changed) {
							taken++
						}
					}
				}
			}
		}
		if taken < 1000 {
			t.Errorf("only %d times there was one: %s", taken, k.name)
		}
	}
}

// TestTakeOfFlag is of P23.1: each byte in place of a flag; of them, 0 and 1 are
// flags.
func TestTakeOfFlag(t *testing.T) {
	for _, k := range kinds() {
		for _, at := range k.flags {
			for b := range 256 {
				parts := slices.Clone(k.parts)
				parts[at] = string([]byte{byte(b)})
				if got := k.check(t, strings.Join(parts, "")); got != (b < 2) {
					t.Errorf("the byte %d at %d of the %s: %t", b, at, k.name, got)
				}
				if b > 1 {
					checkNone(t, k, wire.New(strings.Join(parts, "")+"\x00\x01"), "a flag that is none")
				}
			}
		}
	}
}

// longer are the encoding of a number with zero bytes ahead of its index, which make
// it none.
func longer(part string) []string {
	var l []string
	for zeros := 1; len(part)+zeros <= 9; zeros++ {
		l = append(l, string(rune(len(part)-1+zeros))+strings.Repeat("\x00", zeros)+part[1:])
	}
	return l
}

// TestTakeOfLonger is of P23.1 and P23.3: a number that is written longer than it need
// be, or that has more bytes than any, at each place.
func TestTakeOfLonger(t *testing.T) {
	for _, k := range kinds() {
		for at, part := range k.parts {
			if slices.Contains(k.flags, at) {
				continue
			}
			for _, other := range append(longer(part), "\x09\x01"+strings.Repeat("\x00", 8), "\xff"+strings.Repeat("\xff", 255)) {
				parts := slices.Clone(k.parts)
				parts[at] = other
				s := strings.Join(parts, "") + strings.Repeat("\x00", 20)
				if k.check(t, s) {
					t.Errorf("%x begins with what is taken for the encoding of one: %s", s, k.name)
				}
				checkNone(t, k, wire.New(s), "a number that is written longer")
			}
		}
	}
}

// TestTakeOfFar is of P23.1: each number at each place, since none has bounds.
func TestTakeOfFar(t *testing.T) {
	for _, k := range kinds() {
		for at := range k.parts {
			if slices.Contains(k.flags, at) {
				continue
			}
			for _, n := range slices.Concat(far(), badIds(), badSteps(), badKinds()) {
				parts := slices.Clone(k.parts)
				parts[at] = wantInt(n)
				s := strings.Join(parts, "")
				if !k.check(t, s) || !k.check(t, s+"\x00") {
					t.Errorf("there is no %s with %d at %d", k.name, n, at)
				}
				if got := k.again(wire.New(s)); got != s {
					t.Errorf("taken and put again, %x is %x", s, got)
				}
			}
		}
	}
}

// TestTakeOfShort is of P23.1 and P23.3: all short strings of some bytes; what begins
// with an entry or a reply that is not zero begins with its encoding.
func TestTakeOfShort(t *testing.T) {
	for _, k := range kinds() {
		taken := 0
		var check func(s string, left int)
		check = func(s string, left int) {
			if k.check(t, s) {
				r := wire.New(s)
				if got := k.again(r); got != "" && got != s[:len(s)-r.Left()] {
					t.Errorf("the %s at the beginning of %x is %x", k.name, s, got)
				}
				taken++
			}
			if left == 0 {
				return
			}
			for _, b := range []byte{0, 1, 2, 3, 255} {
				check(s+string([]byte{b}), left-1)
			}
		}
		check("", 6)
		check("\x00\x00\x00", 6)
		check("\x01\x02\x01\x02\x00\x00\x00", 5)
		if taken < 400 {
			t.Errorf("only %d times there was one: %s", taken, k.name)
		}
	}
}

// TestTakeOfBad is of P23.1: readers that are bad, from the beginning or from earlier
// on, and one of nothing.
func TestTakeOfBad(t *testing.T) {
	for _, k := range kinds() {
		zero := wire.Reader{}
		checkNone(t, k, nil, "no reader")
		checkNone(t, k, &zero, "a reader that New did not return")
		checkNone(t, k, wire.New(""), "no octets")
		good := strings.Join(k.parts, "")
		for what, wrong := range map[string]func(r *wire.Reader){
			"Int":       func(r *wire.Reader) { r.Int(9, 9) },
			"Flag":      func(r *wire.Reader) { r.Flag() },
			"Text":      func(r *wire.Reader) { r.Text(0) },
			"List":      func(r *wire.Reader) { r.List(0) },
			"TakeEntry": func(r *wire.Reader) { msg.TakeEntry(r) },
			"TakeReply": func(r *wire.Reader) { msg.TakeReply(r) },
		} {
			// A number, 300, that is no flag, and behind it what is neither.
			r := wire.New("\x02\x02\x58\xff" + good + good)
			wrong(r)
			checkNone(t, k, r, "a reader that went wrong by "+what)
		}
		// One that has been read to its end is not bad, but has nothing.
		r := wire.New(good)
		if got := k.again(r); got != good || !r.Done() {
			t.Errorf("the %s is %x; done is %t", k.name, got, r.Done())
		}
		checkNone(t, k, r, "a reader at its end")
	}
}
