package msg_test

import (
	"math"
	"slices"
	"testing"

	"drayman/api"
	"drayman/msg"
)

const (
	most     = 1 << 40
	maxSteps = 6
)

// goodIds are numbers of envelopes, entries, replies and sagas: those at the edges,
// those at which an encoding is longer by a byte, and ordinary ones.
func goodIds() []int {
	return []int{1, 2, 3, 42, 127, 128, 129, 1<<15 - 1, 1 << 15, 1 << 23, 1<<31 - 1, 1 << 31, 1<<32 - 1, 1 << 32, 1<<32 + 1, 123456789012, 1 << 39, most - 257, most - 256, most - 255, most - 2, most - 1, most}
}

// goodSums are Sums of entries.
func goodSums() []int { return append(goodIds(), 0) }

// goodSteps are Steps.
func goodSteps() []int { return []int{0, 1, 2, 3, 4, 5} }

// badSums are Sums that no entry may have: among them such as would be in their
// range if they lost their upper bits or their sign.
func badSums() []int {
	return []int{-1, -2, -3, -128, -1 << 31, -1<<32 + 1, -1 << 32, 1 - most, -most, -most - 1, -1 << 62, math.MinInt + 2, math.MinInt + 1, math.MinInt,
		most + 1, most + 2, most + 1<<32, 2 * most, 1 << 48, 1<<62 - 1, 1 << 62, 1<<62 + 1, 1<<62 + most, math.MaxInt - 1, math.MaxInt}
}

// badIds are numbers that no envelope, entry, reply or saga has.
func badIds() []int { return append(badSums(), 0) }

// badSteps are Steps that there are not.
func badSteps() []int {
	return append(badSums(), maxSteps, maxSteps+1, 8, 9, 100, 255, 256, 257, 261, 1<<16, 1<<32, 1<<32+1, 1<<32+5, most-1, most, math.MinInt+5)
}

// badKinds are Services, Verdicts and Ops that there are not.
func badKinds() []int {
	return append(badSums(), 0, 7, 8, 9, 100, 256, 257, 258, 259, 260, 262, 1<<16, 1<<32, 1<<32+1, 1<<32+2, 1<<32+3, 1<<32+4, 1<<32+6, most-1, most, math.MinInt+3, math.MinInt+4, math.MinInt+6)
}

// entryNumbers are the numbers of an entry, one by one.
func entryNumbers() []func(x *api.Entry) *int {
	return []func(x *api.Entry) *int{
		func(x *api.Entry) *int { return &x.Id }, func(x *api.Entry) *int { return &x.Saga }, func(x *api.Entry) *int { return &x.Step },
		func(x *api.Entry) *int { return &x.Op }, func(x *api.Entry) *int { return &x.Sum },
	}
}

// replyNumbers are the numbers of a reply, one by one.
func replyNumbers() []func(r *api.Reply) *int {
	return []func(r *api.Reply) *int{
		func(r *api.Reply) *int { return &r.Service }, func(r *api.Reply) *int { return &r.Id }, func(r *api.Reply) *int { return &r.Saga },
		func(r *api.Reply) *int { return &r.Step }, func(r *api.Reply) *int { return &r.Msg }, func(r *api.Reply) *int { return &r.Verdict },
	}
}

// set is x, in which one number is another.
func set[T any](x T, at func(*T) *int, n int) T {
	*at(&x) = n
	return x
}

// goodReplies are valid replies, in which each field has each of its values, once
// with the least ones beside it, once with ordinary ones, and once with the
// greatest.
func goodReplies() []api.Reply {
	var l []api.Reply
	for _, r := range []api.Reply{
		{Service: 1, Id: 1, Saga: 1, Msg: 1, Verdict: 1},
		{Service: 1, Id: 7, Saga: 3, Step: 2, Back: true, Msg: 300, Verdict: 2},
		{Service: 2, Id: most, Saga: most, Step: 5, Back: true, Msg: most, Verdict: 3},
	} {
		for at, values := range [][]int{{1, 2}, goodIds(), goodIds(), goodSteps(), goodIds(), {1, 2, 3}} {
			for _, n := range values {
				x := set(r, replyNumbers()[at], n)
				y := x
				y.Back = !x.Back
				l = append(l, x, y)
			}
		}
	}
	return l
}

// badReplies are replies that are not valid, for one reason, and some for several.
func badReplies() []api.Reply {
	var l []api.Reply
	for _, r := range []api.Reply{{Service: 1, Id: 1, Saga: 1, Msg: 1, Verdict: 1}, {Service: 2, Id: most, Saga: 9, Step: 5, Back: true, Msg: 300, Verdict: 3}} {
		services, verdicts := append(badKinds(), 3, 4, 5, 6), append(badKinds(), 4, 5, 6)
		for at, values := range [][]int{services, badIds(), badIds(), badSteps(), badIds(), verdicts} {
			for _, n := range values {
				l = append(l, set(r, replyNumbers()[at], n))
			}
		}
	}
	return append(l, api.Reply{}, api.Reply{Back: true}, api.Reply{Service: 3, Id: 0, Saga: -1, Step: 6, Msg: most + 1, Verdict: 4}, api.Reply{Id: 1, Saga: 1, Msg: 1}, api.Reply{Service: 1, Verdict: 1})
}

// goodEntries are valid entries, in which each field has each of its values, with
// such others beside it as in goodReplies.
func goodEntries() []api.Entry {
	var l []api.Entry
	for _, x := range []api.Entry{
		{Id: 1, Saga: 1, Op: 2},
		{Id: 7, Saga: 3, Step: 2, Back: true, Op: 4, Sum: 300, Must: true},
		{Id: most, Saga: most, Step: 5, Back: true, Op: 6, Sum: most},
	} {
		for at, values := range [][]int{goodIds(), goodIds(), goodSteps(), {2, 4, 6}, goodSums()} {
			for _, n := range values {
				y := set(x, entryNumbers()[at], n)
				z, w := y, y
				z.Back, w.Must = !y.Back, !y.Must
				l = append(l, y, z, w)
			}
		}
	}
	return l
}

// badEntries are entries that are not valid, for one reason, and some for several.
func badEntries() []api.Entry {
	var l []api.Entry
	for _, x := range []api.Entry{{Id: 1, Saga: 1, Op: 2}, {Id: 9, Saga: most, Step: 5, Back: true, Op: 4, Sum: 300, Must: true}} {
		for at, values := range [][]int{badIds(), badIds(), badSteps(), append(badKinds(), 1, 3, 5), badSums()} {
			for _, n := range values {
				l = append(l, set(x, entryNumbers()[at], n))
			}
		}
	}
	return append(l, api.Entry{}, api.Entry{Back: true}, api.Entry{Must: true}, api.Entry{Id: 0, Saga: -1, Step: 6, Op: 3, Sum: -1}, api.Entry{Id: 1, Saga: 1}, api.Entry{Op: 2})
}

// wantReply is the reference of FitReply.
func wantReply(r api.Reply) bool {
	is := r.Service == 1 || r.Service == 2
	for _, n := range []int{r.Id, r.Saga, r.Msg} {
		is = is && 0 < n && n <= most
	}
	return is && slices.Contains(goodSteps(), r.Step) && slices.Contains([]int{1, 2, 3}, r.Verdict)
}

// wantService is the service that performs an Op.
func wantService(op int) int { return map[int]int{2: 1, 4: 2, 6: 1}[op] }

// wantEntry is the reference for a valid entry.
func wantEntry(x api.Entry) bool {
	return 0 < x.Id && x.Id <= most && 0 < x.Saga && x.Saga <= most && slices.Contains(goodSteps(), x.Step) && wantService(x.Op) != 0 && 0 <= x.Sum && x.Sum <= most
}

// wantFit is the reference of Fit.
func wantFit(x api.Envelope) bool {
	switch {
	case x.Num < 1 || most < x.Num:
		return false
	case x.Ask:
		return wantEntry(x.Entry) && x.Service == wantService(x.Entry.Op) && x.Reply == api.Reply{}
	}
	return wantReply(x.Reply) && x.Service == x.Reply.Service && x.Entry == api.Entry{}
}

// asks is a request in an envelope.
func asks(num int, x api.Entry) api.Envelope {
	return api.Envelope{Num: num, Ask: true, Service: wantService(x.Op), Entry: x}
}

// tells is a reply in an envelope.
func tells(num int, r api.Reply) api.Envelope {
	return api.Envelope{Num: num, Service: r.Service, Reply: r}
}

// fits are fit envelopes: each good entry and each good reply, and each good Num.
func fits() []api.Envelope {
	var l []api.Envelope
	for i, x := range goodEntries() {
		l = append(l, asks(goodIds()[i%len(goodIds())], x))
	}
	for i, r := range goodReplies() {
		l = append(l, tells(goodIds()[i%len(goodIds())], r))
	}
	for _, num := range goodIds() {
		l = append(l, asks(num, goodEntries()[0]), tells(num, goodReplies()[0]))
	}
	return l
}

// few are some fit envelopes, of each kind.
func few() []api.Envelope {
	return []api.Envelope{
		asks(1, api.Entry{Id: 1, Saga: 1, Op: 2}),
		asks(9, api.Entry{Id: 128, Saga: 3, Step: 5, Back: true, Op: 4, Sum: 300, Must: true}),
		asks(most, api.Entry{Id: most, Saga: most, Step: 1, Op: 6, Sum: most, Must: true}),
		tells(9, api.Reply{Service: 1, Id: 1, Saga: 3, Msg: 2, Verdict: 1}),
		tells(200, api.Reply{Service: 2, Id: 128, Saga: 7, Step: 5, Back: true, Msg: 300, Verdict: 2}),
		tells(most, api.Reply{Service: 1, Id: most, Saga: most, Step: 1, Back: true, Msg: most, Verdict: 3}),
	}
}

// onlyEntries are entries that are zero but for one field.
func onlyEntries() []api.Entry {
	l := []api.Entry{{Back: true}, {Must: true}}
	for _, at := range entryNumbers() {
		for _, n := range []int{1, 2, -1, most, most + 1, 1 << 32, math.MinInt, math.MaxInt} {
			l = append(l, set(api.Entry{}, at, n))
		}
	}
	return l
}

// onlyReplies are replies that are zero but for one field.
func onlyReplies() []api.Reply {
	l := []api.Reply{{Back: true}}
	for _, at := range replyNumbers() {
		for _, n := range []int{1, 2, -1, most, most + 1, 1 << 32, math.MinInt, math.MaxInt} {
			l = append(l, set(api.Reply{}, at, n))
		}
	}
	return l
}

// unfit are envelopes that are not fit: for the Num, for what is in them, for the
// Service, for what is not asked for, for neither being there, and for Ask.
func unfit() []api.Envelope {
	var l []api.Envelope
	for _, x := range few() {
		for _, num := range badIds() {
			l = append(l, set(x, func(x *api.Envelope) *int { return &x.Num }, num))
		}
		for _, service := range append(badKinds(), 3, 4, 5, 6, 3-x.Service) {
			l = append(l, set(x, func(x *api.Envelope) *int { return &x.Service }, service))
		}
		other := x
		other.Ask = !x.Ask
		both := x
		both.Entry, both.Reply = few()[1].Entry, few()[4].Reply
		l = append(l, other, both, api.Envelope{Num: x.Num, Ask: x.Ask, Service: x.Service}, api.Envelope{Num: x.Num, Ask: x.Ask})
	}
	for i, x := range badEntries() {
		l = append(l, asks(i+1, x), api.Envelope{Num: 1, Ask: true, Service: 1, Entry: x}, api.Envelope{Num: 1, Ask: true, Service: 2, Entry: x})
	}
	for i, r := range badReplies() {
		l = append(l, tells(i+1, r), api.Envelope{Num: 1, Service: 1, Reply: r}, api.Envelope{Num: 1, Service: 2, Reply: r})
	}
	return append(l, filled()...)
}

// filled are envelopes that are fit but for one field of what is not asked for.
func filled() []api.Envelope {
	var l []api.Envelope
	for _, x := range few() {
		if x.Ask {
			for _, x.Reply = range append(onlyReplies(), goodReplies()...) {
				l = append(l, x)
			}
			continue
		}
		for _, x.Entry = range append(onlyEntries(), goodEntries()...) {
			l = append(l, x)
		}
	}
	return l
}

// checkReply holds FitReply against what is wanted, and against its reference.
func checkReply(t *testing.T, r api.Reply, want bool) {
	t.Helper()
	if got := msg.FitReply(r); got != want || got != wantReply(r) {
		t.Errorf("FitReply(%+v) is %t", r, got)
	}
}

// checkFit holds Fit against what is wanted, and against its reference.
func checkFit(t *testing.T, x api.Envelope, want bool) {
	t.Helper()
	if got := msg.Fit(x); got != want || got != wantFit(x) {
		t.Errorf("Fit(%+v) is %t", x, got)
	}
}

// TestFitReply is of P23.1: valid replies, and replies that are not valid for each
// reason.
func TestFitReply(t *testing.T) {
	for _, r := range goodReplies() {
		checkReply(t, r, true)
	}
	for _, r := range append(badReplies(), onlyReplies()...) {
		checkReply(t, r, false)
	}
}

// TestFitReplyAtEdges is of P23.1: the edges, written out.
func TestFitReplyAtEdges(t *testing.T) {
	for _, back := range []bool{false, true} {
		for n, is := range map[int]bool{math.MinInt: false, -1: false, 0: false, 1: true, 2: true, 1099511627775: true, 1099511627776: true, 1099511627777: false, math.MaxInt: false} {
			checkReply(t, api.Reply{Service: 1, Id: n, Saga: 2, Step: 3, Back: back, Msg: 4, Verdict: 1}, is)
			checkReply(t, api.Reply{Service: 1, Id: 4, Saga: n, Step: 3, Back: back, Msg: 2, Verdict: 3}, is)
			checkReply(t, api.Reply{Service: 2, Id: 2, Saga: 4, Step: 3, Back: back, Msg: n, Verdict: 2}, is)
			checkReply(t, api.Reply{Service: 2, Id: n, Saga: n, Step: 0, Back: back, Msg: n, Verdict: 2}, is)
		}
		for n, is := range map[int]bool{math.MinInt: false, -1: false, 0: true, 1: true, 4: true, 5: true, 6: false, 7: false, math.MaxInt: false} {
			checkReply(t, api.Reply{Service: 1, Id: 1, Saga: 2, Step: n, Back: back, Msg: 4, Verdict: 1}, is)
		}
		for n, is := range map[int]bool{math.MinInt: false, -1: false, 0: false, 1: true, 2: true, 3: true, 4: false, math.MaxInt: false} {
			checkReply(t, api.Reply{Service: 1, Id: 1, Saga: 2, Step: 5, Back: back, Msg: 4, Verdict: n}, is)
			checkReply(t, api.Reply{Service: n, Id: 1, Saga: 2, Step: 5, Back: back, Msg: 4, Verdict: 3}, is && n < 3)
		}
	}
}

// TestFitReplyOfSmall is of P23.1: every reply of small numbers.
func TestFitReplyOfSmall(t *testing.T) {
	fit, small := 0, []int{-1, 0, 1, 2, 3, 4, 5, 6, 7}
	for _, service := range small {
		for _, step := range small {
			for _, verdict := range small {
				for id := -1; id < 3; id++ {
					for saga := -1; saga < 3; saga++ {
						for m := -1; m < 3; m++ {
							r := api.Reply{Service: service, Id: id, Saga: saga, Step: step, Msg: m, Verdict: verdict, Back: m == id}
							checkReply(t, r, wantReply(r))
							if msg.FitReply(r) {
								fit++
							}
						}
					}
				}
			}
		}
	}
	if fit != 2*6*3*2*2*2 {
		t.Errorf("%d replies are valid", fit)
	}
}

// TestFit is of P23.1: envelopes that are fit, and such as are not for each reason.
func TestFit(t *testing.T) {
	for _, x := range append(fits(), few()...) {
		checkFit(t, x, true)
	}
	for _, x := range append(unfit(), api.Envelope{}, api.Envelope{Ask: true}) {
		checkFit(t, x, false)
	}
}

// TestFitAtEdges is of P23.1: the edges of Num, and each Op and Service with each
// Service, written out.
func TestFitAtEdges(t *testing.T) {
	for num, is := range map[int]bool{math.MinInt: false, -1: false, 0: false, 1: true, 2: true, 1099511627775: true, 1099511627776: true, 1099511627777: false, math.MaxInt: false} {
		checkFit(t, api.Envelope{Num: num, Ask: true, Service: 1, Entry: api.Entry{Id: 5, Saga: 6, Op: 2}}, is)
		checkFit(t, api.Envelope{Num: num, Service: 2, Reply: api.Reply{Service: 2, Id: 5, Saga: 6, Msg: 7, Verdict: 1}}, is)
	}
	for service := -1; service < 8; service++ {
		for n := -1; n < 8; n++ {
			ask := service == 1 && (n == 2 || n == 6) || service == 2 && n == 4
			checkFit(t, api.Envelope{Num: 9, Ask: true, Service: service, Entry: api.Entry{Id: 5, Saga: 6, Op: n}}, ask)
			tell := n == service && (n == 1 || n == 2)
			checkFit(t, api.Envelope{Num: 9, Service: service, Reply: api.Reply{Service: n, Id: 5, Saga: 6, Msg: 7, Verdict: 1}}, tell)
		}
	}
}

// TestFitOfParts is of P23.1: each of some entries together with each of some
// replies, with each Service, with Ask and without.
func TestFitOfParts(t *testing.T) {
	entries := []api.Entry{{}, {Id: 1, Saga: 1, Op: 2}, {Id: 1, Saga: 1, Op: 4}, {Id: 1, Saga: 1, Step: 5, Back: true, Op: 6, Sum: 9, Must: true}, {Id: 1, Saga: 1, Op: 3}, {Must: true}, {Sum: 1}}
	replies := []api.Reply{{}, {Service: 1, Id: 1, Saga: 1, Msg: 1, Verdict: 1}, {Service: 2, Id: 1, Saga: 1, Step: 5, Back: true, Msg: 1, Verdict: 3}, {Service: 3, Id: 1, Saga: 1, Msg: 1, Verdict: 1}, {Back: true}, {Service: 1}, {Verdict: 1}}
	fit := 0
	for _, x := range entries {
		for _, r := range replies {
			for service := range 4 {
				for num := range 3 {
					for _, ask := range []bool{false, true} {
						env := api.Envelope{Num: num, Ask: ask, Service: service, Entry: x, Reply: r}
						checkFit(t, env, wantFit(env))
						if msg.Fit(env) {
							fit++
						}
					}
				}
			}
		}
	}
	// Three entries and two replies are valid, each with one Service and two Nums.
	if fit != 2*(3+2) {
		t.Errorf("%d envelopes are fit", fit)
	}
}
