package tests

import (
	"fmt"
	"slices"
	"testing"

	"loop.example/wharfdesk/impl"
)

// recTicked is all that a tick answers.
type recTicked struct {
	Next impl.Recorder
	Sent []impl.RecMessage
}

// recBegins is what a tick of one that is Up begins with, but for the Wishes.
func recBegins(r *impl.Recorder) {
	r.Safe, r.Held, r.Heard = spread(r.Disk), nil, min(1000000, r.Heard+1)
}

// recCheckTick says what a tick answers, in new memory, nothing that was handed in being changed.
func recCheckTick(t *testing.T, what string, r impl.Recorder, want recTicked) {
	t.Helper()
	r = spread(r)
	before := whole(r)
	var got recTicked
	got.Next, got.Sent = impl.RecTick(r)
	if !same(got.Next, want.Next) {
		t.Errorf("%s:\n%+v, not\n%+v", what, got.Next, want.Next)
	}
	if !same(got.Sent, want.Sent) {
		t.Errorf("%s, sent:\n%+v, not\n%+v", what, got.Sent, want.Sent)
	}
	newMemory(t, what, got, r)
	if !same(whole(r), before) {
		t.Errorf("%s: the argument was changed", what)
	}
}

// recTicks says what a tick makes of one that is Up: what each one begins with, and then what is told; sent is what was held, and then what is told.
func recTicks(t *testing.T, what string, r impl.Recorder, told []impl.RecMessage, turns ...recTurn) impl.Recorder {
	t.Helper()
	want := recTicked{recWith(spread(r), append([]recTurn{recBegins}, turns...)...), slices.Concat(r.Held, told)}
	recCheckTick(t, what, r, want)
	if !impl.RecValid(want.Next) || !recIsValid(want.Next) {
		t.Errorf("%s: not valid: %+v", what, want.Next)
	}
	for _, m := range want.Sent {
		if !impl.RecMessageOk(m, r.Of) || m.From != r.Number {
			t.Errorf("%s: not ok, or from another: %+v", what, m)
		}
	}
	return want.Next
}

// recToOthers is a message of one for each other one, in order.
func recToOthers(number, of int, m impl.RecMessage) []impl.RecMessage {
	var list []impl.RecMessage
	for to := 1; to <= of; to++ {
		if m.From, m.To = number, to; to != number {
			list = append(list, m)
		}
	}
	return list
}

func recHeardFor(ticks int) recTurn {
	return func(r *impl.Recorder) { r.Heard = ticks }
}

// recTriesAnew is what becomes of one that has waited for too long.
func recTriesAnew(ballot int) recTurn {
	return func(r *impl.Recorder) {
		recIsQuiet(r)
		r.Heard, r.Disk.Promise, r.Ballot, r.Trying = 0, ballot, ballot, true
		r.Held = recToOthers(r.Number, r.Of, impl.RecMessage{Kind: impl.RecPrepare, Ballot: ballot})
	}
}

func TestRecTickOfOneThatIsNotValid(t *testing.T) {
	for sort, made := range recRoles() {
		for what, spoil := range recSpoilt() {
			recCheckTick(t, sort+", "+what, recWith(made(), spoil), recTicked{})
		}
	}
	recCheckTick(t, "nothing", impl.Recorder{}, recTicked{})
	recCheckTick(t, "nothing but Up", impl.Recorder{Up: true}, recTicked{})
	recCheckTick(t, "not Up, with something held", recWith(recDown(), recFullTo(1)), recTicked{})
}

// Not even the disk is made safe.
func TestRecTickOfOneThatIsNotUp(t *testing.T) {
	for what, r := range map[string]impl.Recorder{
		"down":                      recDown(),
		"with a Disk ahead":         recWith(recDown(), func(r *impl.Recorder) { r.Disk = recAwake().Disk }),
		"with a Disk behind":        recWith(recDown(), func(r *impl.Recorder) { r.Disk = impl.RecDisk{} }),
		"nothing on its disks":      {Number: 2, Of: 3},
		"one alone":                 {Number: 1, Of: 1},
		"a Promise at its most":     recWith(recDown(), recPromises(1000000)),
		"all places, all known":     recWith(recDown(), recPromises(8), recHasSlots(recSome(120, recSlot(8, "k"))...), recKnows(120)),
		"the last of all there are": {Number: 5, Of: 5, Safe: recAwake().Safe, Disk: recAwake().Disk},
	} {
		recCheckTick(t, what, r, recTicked{Next: r})
	}
}

// Safe is the Disk as it was handed in, whatever was safe before, and whatever the tick does to the Disk.
func TestRecTickMakesSafe(t *testing.T) {
	ahead := impl.RecDisk{Promise: 20, Known: 3, Slots: recSome(7, recSlot(20, "s"))}
	for _, safe := range []impl.RecDisk{{}, recAwake().Safe, recAwake().Disk, ahead} {
		was := func(r *impl.Recorder) { r.Safe = safe }
		recTicks(t, "quiet", recWith(recAwake(), was), nil)
		recTicks(t, "a new one", recWith(impl.RecNew(2, 3), was), nil)
		late := recWith(recAwake(), was, recHeardFor(10))
		got := recTicks(t, "trying anew", late, nil, recTriesAnew(10))
		if got.Safe.Promise != 8 || got.Disk.Promise != 10 {
			t.Errorf("%+v", got)
		}
	}
	got := recTicks(t, "leading", recWith(recCaptain(), recWishes("w")), recLedOn(1, "b", "c", "", "e", "w"),
		recHasAcks(recAck(2, 2), recAck(5, 2)), recPuts(6, 8, "w"))
	if len(got.Safe.Slots) != 5 || len(got.Disk.Slots) != 6 {
		t.Errorf("%+v", got)
	}
}

func TestRecTickSendsHeld(t *testing.T) {
	for sort, made := range map[string]func() impl.Recorder{"quiet": recAwake, "trying": recTrier} {
		for _, n := range []int{0, 1, 2, 399, 400} {
			recTicks(t, fmt.Sprintf("%s, %d held", sort, n), recWith(made(), recFullTo(n)), nil)
		}
		var each []impl.RecMessage
		for i := range 400 {
			each = append(each, impl.RecMessage{Kind: 9 - i%9, From: 2, To: 1 + i%4, Ballot: 400 - i, Index: i % 121, Known: i % 7, Text: fmt.Sprint("m", i), Slots: recSome(i%3, recSlot(i+1, "x"))})
		}
		recTicks(t, sort+", 400 of all sorts", recWith(made(), func(r *impl.Recorder) { r.Held = each }), nil)
		// What is sent stands ahead of what is held anew: that is for the next tick.
		late := recWith(made(), recHeardFor(10), func(r *impl.Recorder) { r.Held = each })
		next := recTicks(t, sort+", trying anew", late, nil, recTriesAnew(10))
		recTicks(t, sort+", then", next, nil, recSaidYes(2), recHasBest(next.Disk.Slots...))
	}
	recTicks(t, "leading, 400 held", recWith(recCaptain(), recFullTo(400)), recLedOn(1, "b", "c", "", "e"), recHasAcks(recAck(2, 2), recAck(5, 2)))
}

// recAwake knows a and b; d is in a slot of its Disk that is not known.
func TestRecTickDropsWishes(t *testing.T) {
	many := recManyWishes(20)
	for _, c := range []struct{ had, want []string }{
		{nil, nil},
		{[]string{"a"}, nil},
		{[]string{"d"}, []string{"d"}},
		{[]string{"b", "a"}, nil},
		{[]string{"a", "e", "d", "f"}, []string{"e", "d", "f"}},
		{[]string{"f", "b", "e"}, []string{"f", "e"}},
		{[]string{"f", "e", "b"}, []string{"f", "e"}},
		{[]string{"z", "b", "y", "a", "x"}, []string{"z", "y", "x"}},
		{[]string{"aa", "A", "b ", " ", "ab"}, []string{"aa", "A", "b ", " ", "ab"}},
		{many, many},
		{slices.Concat(many[:9], []string{"a"}, many[9:18], []string{"b"}), many[:18]},
	} {
		for sort, made := range map[string]func() impl.Recorder{"quiet": recAwake, "trying": recTrier} {
			recTicks(t, fmt.Sprintf("%s, %q", sort, c.had), recWith(made(), recWishes(c.had...)), nil, recWishes(c.want...))
		}
	}
	// What is Safe has no say, not even where it knows more.
	safe := func(r *impl.Recorder) {
		r.Safe = impl.RecDisk{Promise: 9, Known: 3, Slots: recSlots(recSlot(9, "e"), recSlot(9, "d"), recSlot(9, "f"))}
	}
	recTicks(t, "known by what was Safe", recWith(recAwake(), safe), nil)
	// A text that is known, and stands once more behind that.
	twice := recWith(recAwake(), recHasSlots(recSlot(2, "a"), recSlot(8, "e"), recSlot(8, "e"), recSlot(8, "f")))
	recTicks(t, "known, and there once more", twice, nil, recWishes("d", "f"))
	all := recWith(recAwake(), recHasSlots(recNumbered(120, "p", func(int) int { return 8 })...), recKnows(120), recWishes("p119", "p120", "p0", "p"))
	recTicks(t, "120 known", all, nil, recWishes("p120", "p"))
	recTicks(t, "119 known", recWith(all, recKnows(119)), nil, recWishes("p119", "p120", "p"))
	recTicks(t, "none known", recWith(all, recKnows(0)), nil)
}

func TestRecTickCounts(t *testing.T) {
	for ticks := range 10 {
		recTicks(t, fmt.Sprint("quiet, ", ticks), recWith(recAwake(), recHeardFor(ticks)), nil, recHeardFor(ticks+1))
		recTicks(t, fmt.Sprint("trying, ", ticks), recWith(recTrier(), recHeardFor(ticks)), nil, recHeardFor(ticks+1))
	}
	// One that leads counts on and on.
	led, acks := recLedOn(1, "b", "c", "", "e"), recHasAcks(recAck(2, 2), recAck(5, 2))
	for ticks, want := range map[int]int{0: 1, 3: 4, 10: 11, 11: 12, 999: 1000, 999998: 999999, 999999: 1000000, 1000000: 1000000} {
		recTicks(t, fmt.Sprint("leading, ", ticks), recWith(recCaptain(), recHeardFor(ticks)), led, acks, recHeardFor(want))
	}
	for _, ticks := range []int{999999, 1000000} {
		recTicks(t, fmt.Sprint("quiet, ", ticks), recWith(recAwake(), recHeardFor(ticks)), nil, recTriesAnew(10))
	}
}

// One whose Number is n bears 4 + 3 * n ticks, and not one more; the tick itself is counted.
func TestRecTickBears(t *testing.T) {
	bound := []int{1: 7, 2: 10, 3: 13, 4: 16, 5: 19}
	for of := 1; of <= 5; of++ {
		for number := 1; number <= of; number++ {
			r := impl.RecNew(number, of)
			for _, ticks := range []int{0, 1, 6, bound[number] - 2, bound[number] - 1} {
				recTicks(t, fmt.Sprintf("%d of %d, %d", number, of, ticks), recWith(r, recHeardFor(ticks)), nil, recHeardFor(ticks+1))
			}
			for _, ticks := range []int{bound[number], bound[number] + 1, 100, 1000000} {
				recTicks(t, fmt.Sprintf("%d of %d, %d", number, of, ticks), recWith(r, recHeardFor(ticks)), nil, recTriesAnew(number))
			}
		}
	}
	// From the beginning on, tick by tick.
	r := impl.RecNew(3, 5)
	for tick := 1; tick <= 13; tick++ {
		r = recTicks(t, fmt.Sprint("tick ", tick), r, nil, recHeardFor(tick))
	}
	r = recTicks(t, "tick 14", r, nil, recTriesAnew(3))
	prepares := []impl.RecMessage{{Kind: 1, From: 3, To: 1, Ballot: 3}, {Kind: 1, From: 3, To: 2, Ballot: 3}, {Kind: 1, From: 3, To: 4, Ballot: 3}, {Kind: 1, From: 3, To: 5, Ballot: 3}}
	if !same(r.Held, prepares) {
		t.Errorf("held: %+v", r.Held)
	}
	if _, sent := impl.RecTick(r); !same(sent, prepares) {
		t.Errorf("sent: %+v", sent)
	}
}

// The ballot is above the Disk's Promise, whatever was Safe, and whatever its own was.
func TestRecTickTriesAnew(t *testing.T) {
	for sort, made := range map[string]func() impl.Recorder{"quiet": recAwake, "trying": recTrier} {
		for promise, ballot := range map[int]int{8: 10, 9: 10, 10: 14, 11: 14, 13: 14, 14: 18, 999993: 999994, 999994: 999998, 999997: 999998} {
			r := recWith(made(), recPromises(promise), recHeardFor(10))
			recTicks(t, fmt.Sprintf("%s, above %d", sort, promise), r, nil, recTriesAnew(ballot))
		}
		// There is none left: it is quiet, and waits once more.
		for _, promise := range []int{999998, 999999, 1000000} {
			r := recWith(made(), recPromises(promise), recHeardFor(10))
			got := recTicks(t, fmt.Sprintf("%s, above %d", sort, promise), r, nil, recIsQuiet, recHasHeard)
			recTicks(t, fmt.Sprintf("%s, above %d, then", sort, promise), got, nil, recHeardFor(1))
		}
		// Wishes that are known are gone, others stay for the time when it leads.
		r := recWith(made(), recHeardFor(10), recWishes("g", "a", "d"))
		recTicks(t, sort+", with wishes", r, nil, recTriesAnew(10), recWishes("g", "d"))
	}
	last := recWith(impl.RecNew(1, 3), recPromises(999999), recHeardFor(7))
	recTicks(t, "the last ballot of all", last, nil, recTriesAnew(1000000))
	recTicks(t, "the last but one was another's", recWith(impl.RecNew(2, 3), recPromises(999999), recHeardFor(10)), nil, recHasHeard)
	recTicks(t, "one alone", recWith(impl.RecNew(1, 1), recHeardFor(7)), nil, recTriesAnew(1))
	recTicks(t, "one alone, none left", recWith(impl.RecNew(1, 1), recPromises(1000000), recHeardFor(7)), nil, recHasHeard)
}

// A promise of itself that is not enough is gone, if it has waited for too long by this tick.
func TestRecTickTriesAnewBehindItsOwnPromise(t *testing.T) {
	r := recWith(recTrier(), recHasBallot(8), recSaidYes(4))
	recTicks(t, "10 ticks", recWith(r, recHeardFor(9)), nil, recHeardFor(10), recSaidYes(2, 4), recHasBest(recSlot(5, "b"), recSlot(8, "b"), recSlot(3, ""), recSlot(8, "d")))
	recTicks(t, "11 ticks", recWith(r, recHeardFor(10)), nil, recTriesAnew(10))
	recTicks(t, "11 ticks, none left", recWith(r, recPromises(1000000), recHasBallot(1000000), recHeardFor(10)), nil, recIsQuiet, recHasHeard)
}
