package tests

import (
	"fmt"
	"slices"
	"testing"

	"loop.example/wharfdesk/impl"
)

// recCaptain leads 3 under 8, and knows one place. What it has for 3 is of another ballot, and for 4 there is nothing yet.
func recCaptain() impl.Recorder {
	return impl.Recorder{
		Number: 2, Of: 3, Up: true, Lead: true, Ballot: 8, Heard: 3,
		Safe: impl.RecDisk{Promise: 5, Known: 1, Slots: recSlots(recSlot(2, "a"), recSlot(5, "b"))},
		Disk: impl.RecDisk{Promise: 8, Known: 1, Slots: recSlots(recSlot(2, "a"), recSlot(8, "b"), recSlot(7, "c"), recSlot(0, ""), recSlot(8, "e"))},
		Held: []impl.RecMessage{{Kind: impl.RecChosen, From: 2, To: 3, Ballot: 8, Index: 1, Text: "a"}},
	}
}

// recLeadsWith is what one sends that leads under a ballot, knowing so many places, with the texts of those behind.
func recLeadsWith(number, of, ballot, known int, texts ...string) []impl.RecMessage {
	list := recToOthers(number, of, impl.RecMessage{Kind: impl.RecBeat, Ballot: ballot, Known: known})
	for i, text := range texts {
		list = append(list, recToOthers(number, of, impl.RecMessage{Kind: impl.RecAccept, Ballot: ballot, Index: known + 1 + i, Text: text})...)
	}
	return list
}

// recLedOn is what recCaptain sends.
func recLedOn(known int, texts ...string) []impl.RecMessage {
	return recLeadsWith(2, 3, 8, known, texts...)
}

func recTexts(slots []impl.RecSlot) []string {
	var list []string
	for _, s := range slots {
		list = append(list, s.Text)
	}
	return list
}

// What is sent, one by one.
func TestRecTickSendsWhatItLeadsWith(t *testing.T) {
	r := recWith(recCaptain(), recWishes("w"))
	_, sent := impl.RecTick(r)
	want := []impl.RecMessage{
		{Kind: 6, From: 2, To: 3, Ballot: 8, Index: 1, Text: "a"},
		{Kind: 5, From: 2, To: 1, Ballot: 8, Known: 1}, {Kind: 5, From: 2, To: 3, Ballot: 8, Known: 1},
		{Kind: 3, From: 2, To: 1, Ballot: 8, Index: 2, Text: "b"}, {Kind: 3, From: 2, To: 3, Ballot: 8, Index: 2, Text: "b"},
		{Kind: 3, From: 2, To: 1, Ballot: 8, Index: 3, Text: "c"}, {Kind: 3, From: 2, To: 3, Ballot: 8, Index: 3, Text: "c"},
		{Kind: 3, From: 2, To: 1, Ballot: 8, Index: 4}, {Kind: 3, From: 2, To: 3, Ballot: 8, Index: 4},
		{Kind: 3, From: 2, To: 1, Ballot: 8, Index: 5, Text: "e"}, {Kind: 3, From: 2, To: 3, Ballot: 8, Index: 5, Text: "e"},
		{Kind: 3, From: 2, To: 1, Ballot: 8, Index: 6, Text: "w"}, {Kind: 3, From: 2, To: 3, Ballot: 8, Index: 6, Text: "w"},
	}
	if !same(sent, want) {
		t.Errorf("%+v, not\n%+v", sent, want)
	}
	for of := 1; of <= 5; of++ {
		for number := 1; number <= of; number++ {
			r := recWith(impl.RecNew(number, of), recPromises(7), recHasSlots(recSlot(3, "a"), recSlot(3, "b")), recKnows(1), func(r *impl.Recorder) { r.Lead, r.Ballot = true, 5 })
			recTicks(t, fmt.Sprintf("%d of %d", number, of), r, recLeadsWith(number, of, 5, 1, "b"))
		}
	}
	// All places: as much as one can send at once.
	all := recWith(recChief(), recHasSlots(recSome(120, recSlot(7, letters(160)))...), recKnows(0), recHasAcks(), recFullTo(400))
	recTicks(t, "all places", all, recLeadsWith(2, 5, 8, 0, recTexts(all.Disk.Slots)...))
	recTicks(t, "all places known", recWith(all, recKnows(120)), recLeadsWith(2, 5, 8, 120))
	recTicks(t, "nothing to tell", recWith(all, recHasSlots(), recFullTo(0), recWishes()), recLeadsWith(2, 5, 8, 0))
	// Its own Ballot is told, not what it promised.
	raised := recWith(recCaptain(), recPromises(20))
	recTicks(t, "a Promise above its own", raised, recLedOn(1, "b", "c", "", "e"), recHasAcks(recAck(2, 2), recAck(5, 2)))
}

// Of places that are safe those count that have its Ballot, known or not; what is not safe yet counts in the next tick.
func TestRecTickTookItself(t *testing.T) {
	led := recLedOn(1, "b", "c", "", "e")
	for _, c := range []struct{ had, want []impl.RecAck }{
		{nil, []impl.RecAck{recAck(2, 2), recAck(5, 2)}},
		{[]impl.RecAck{recAck(2), recAck(5)}, []impl.RecAck{recAck(2, 2), recAck(5, 2)}},
		{[]impl.RecAck{recAck(2, 2), recAck(5, 2)}, []impl.RecAck{recAck(2, 2), recAck(5, 2)}},
		{[]impl.RecAck{recAck(1, 1), recAck(3, 1, 3), recAck(120, 3)}, []impl.RecAck{recAck(1, 1), recAck(2, 2), recAck(3, 1, 3), recAck(5, 2), recAck(120, 3)}},
		{[]impl.RecAck{recAck(5, 1, 3)}, []impl.RecAck{recAck(2, 2), recAck(5, 1, 2, 3)}},
	} {
		recTicks(t, fmt.Sprint(c.had), recWith(recCaptain(), recHasAcks(c.had...)), led, recHasAcks(c.want...))
	}
	// What was Safe ahead of the tick has no say.
	safe := func(r *impl.Recorder) {
		r.Safe = impl.RecDisk{Promise: 8, Slots: recSome(9, recSlot(8, "s"))}
	}
	recTicks(t, "much was Safe", recWith(recCaptain(), safe), led, recHasAcks(recAck(2, 2), recAck(5, 2)))
	none := recWith(recCaptain(), recHasBallot(6))
	recTicks(t, "none with its Ballot", none, recLeadsWith(2, 3, 6, 1, "b", "c", "", "e"))
	// Those that are known are taken, too.
	known := recWith(recCaptain(), recHasSlots(recSlot(8, "a"), recSlot(8, "b"), recSlot(8, "")), recKnows(2))
	recTicks(t, "what is known", known, recLedOn(2, ""), recHasAcks(recAck(1, 2), recAck(2, 2), recAck(3, 2)))
}

// Known goes on by its own taking, where with the others' it is more than half.
func TestRecTickComesToKnow(t *testing.T) {
	full := func(list ...impl.RecSlot) impl.Recorder {
		return recWith(recCaptain(), recHasSlots(append(recSlots(recSlot(2, "a")), list...)...))
	}
	b, c, d := recSlot(8, "b"), recSlot(8, "c"), recSlot(8, "d")
	r := recWith(full(b, c, d), recHasAcks(recAck(2, 1), recAck(3, 3), recAck(4, 1)))
	recTicks(t, "three at once", r, recLedOn(4), recHasAcks(recAck(2, 1, 2), recAck(3, 2, 3), recAck(4, 1, 2)), recKnows(4))
	r = recWith(full(b, c, d), recHasAcks(recAck(2, 1), recAck(4, 1)))
	recTicks(t, "up to one that others did not take", r, recLedOn(2, "c", "d"), recHasAcks(recAck(2, 1, 2), recAck(3, 2), recAck(4, 1, 2)), recKnows(2))
	r = recWith(full(b, recSlot(7, "c"), d), recHasAcks(recAck(2, 1), recAck(3, 1, 3), recAck(4, 1)))
	recTicks(t, "up to one of another ballot", r, recLedOn(2, "c", "d"), recHasAcks(recAck(2, 1, 2), recAck(3, 1, 3), recAck(4, 1, 2)), recKnows(2))
	r = recWith(full(b, c), recHasAcks(recAck(2, 1, 3), recAck(3, 1, 3)))
	recTicks(t, "what the others took already", r, recLedOn(3), recHasAcks(recAck(2, 1, 2, 3), recAck(3, 1, 2, 3)), recKnows(3))
	r = recWith(full(b, c), recHasAcks(recAck(3, 1, 3)))
	recTicks(t, "not ahead of the one before", r, recLedOn(1, "b", "c"), recHasAcks(recAck(2, 2), recAck(3, 1, 2, 3)))
	all := recWith(recCaptain(), recHasSlots(recSome(120, recSlot(8, "k"))...), recKnows(0), recHasAcks())
	var had, want []impl.RecAck
	for index := 1; index <= 120; index++ {
		had, want = append(had, recAck(index, 3)), append(want, recAck(index, 2, 3))
	}
	recTicks(t, "all places", recWith(all, recHasAcks(had...)), recLedOn(120), recHasAcks(want...), recKnows(120))
}

// A wish that is known by this very tick stays until the next one, and is not brought in anew.
func TestRecTickComesToKnowAWish(t *testing.T) {
	r := recWith(recCaptain(), recHasSlots(recSlot(2, "a"), recSlot(8, "b")), recHasAcks(recAck(2, 3)), recWishes("b"))
	r = recTicks(t, "known by this tick", r, recLedOn(2), recHasAcks(recAck(2, 2, 3)), recKnows(2))
	recTicks(t, "then", r, recLedOn(2), recWishes())
}

// recCaptain's Disk has a, which is known, b, c, one that is empty, and e.
func TestRecTickBringsIn(t *testing.T) {
	acks := recHasAcks(recAck(2, 2), recAck(5, 2))
	for _, c := range []struct{ wishes, brought []string }{
		{nil, nil},
		{[]string{"w"}, []string{"w"}},
		{[]string{"w", "v", "x"}, []string{"w", "v", "x"}},
		{[]string{"b"}, nil},
		{[]string{"c", "e", "b"}, nil},
		{[]string{"c", "w", "e", "v", "b"}, []string{"w", "v"}},
		{[]string{"w", "b", "v", "e"}, []string{"w", "v"}},
		{[]string{"bb", "B", "b ", "ce"}, []string{"bb", "B", "b ", "ce"}},
		{[]string{letters(160), "\x00"}, []string{letters(160), "\x00"}},
		{recManyWishes(20), recManyWishes(20)},
	} {
		var slots []impl.RecSlot
		for _, text := range c.brought {
			slots = append(slots, recSlot(8, text))
		}
		r := recWith(recCaptain(), recWishes(c.wishes...))
		recTicks(t, fmt.Sprintf("%q", c.wishes), r, recLedOn(1, slices.Concat([]string{"b", "c", "", "e"}, c.brought)...), acks, recHasSlots(slices.Concat(r.Disk.Slots, slots)...))
	}
	// What is known is no wish any more.
	known := recWith(recCaptain(), recWishes("w", "a", "v"))
	recTicks(t, "one that is known", known, recLedOn(1, "b", "c", "", "e", "w", "v"), acks, recWishes("w", "v"), recHasSlots(append(known.Disk.Slots, recSlot(8, "w"), recSlot(8, "v"))...))
	// What was Safe has no say: a text that is there alone is brought in.
	safe := func(r *impl.Recorder) {
		r.Safe = impl.RecDisk{Promise: 8, Known: 1, Slots: recSlots(recSlot(8, "w"))}
	}
	alone := recWith(recCaptain(), recWishes("w"), safe)
	recTicks(t, "one that was Safe", alone, recLedOn(1, "b", "c", "", "e", "w"), acks, recHasSlots(append(alone.Disk.Slots, recSlot(8, "w"))...))
	// One that does not lead brings nothing in.
	recTicks(t, "quiet", recWith(recAwake(), recWishes("w")), nil)
	recTicks(t, "trying", recWith(recTrier(), recWishes("w")), nil)
}

func TestRecTickBringsInWhatThereIsRoomFor(t *testing.T) {
	wishes := []string{"p3", "v", "w", "p7", "x"}
	for _, n := range []int{115, 116, 117, 118, 119, 120} {
		slots := recNumbered(n, "p", func(int) int { return 7 })
		r := recWith(recCaptain(), recHasSlots(slots...), recKnows(2), recWishes(wishes...))
		for _, text := range []string{"v", "w", "x"}[:min(3, 120-n)] {
			slots = append(slots, recSlot(8, text))
		}
		recTicks(t, fmt.Sprint(n, " slots"), r, recLedOn(2, recTexts(slots[2:])...), recHasSlots(slots...))
	}
	twenty := recManyWishes(20)
	r := recWith(recCaptain(), recHasSlots(recSome(119, recSlot(7, "k"))...), recKnows(119), recWishes(twenty...))
	recTicks(t, "room for one of 20", r, recLedOn(119, twenty[0]), recHasSlots(append(r.Disk.Slots, recSlot(8, twenty[0]))...))
}

// A new slot is taken by itself in the next tick, when it is safe.
func TestRecTickTakesNewSlotsInTheNext(t *testing.T) {
	r := recWith(recCaptain(), recHasSlots(recSlot(2, "a")), recWishes("v", "w"))
	r = recTicks(t, "the first", r, recLedOn(1, "v", "w"), recHasSlots(recSlot(2, "a"), recSlot(8, "v"), recSlot(8, "w")))
	r = recTicks(t, "the second", r, recLedOn(1, "v", "w"), recHasAcks(recAck(2, 2), recAck(3, 2)))
	r = recTicks(t, "the third", r, recLedOn(1, "v", "w"))
	r = impl.RecTake(r, recTook(3, 2))
	recTicks(t, "with another one's", r, recLedOn(2, "w"), recWishes("w"))
	one := recWith(impl.RecNew(1, 1), recPromises(5), recWishes("v", "w"), func(r *impl.Recorder) { r.Lead, r.Ballot = true, 5 })
	one = recTicks(t, "one alone", one, nil, recHasSlots(recSlot(5, "v"), recSlot(5, "w")))
	one = recTicks(t, "one alone, the second", one, nil, recHasAcks(recAck(1, 1), recAck(2, 1)), recKnows(2))
	recTicks(t, "one alone, the third", one, nil, recWishes())
}

// Safe's Promise is its Ballot, behind the first step of the tick, or above it.
func TestRecTickPromisesItself(t *testing.T) {
	disk := recAwake().Disk
	for _, safe := range []int{0, 6, 8, 20} {
		for _, ballot := range []int{1, 5, 6, 7, 8} {
			r := recWith(recTrier(), recHasBallot(ballot), recSaidYes(4), recHasBest(), func(r *impl.Recorder) { r.Safe = impl.RecDisk{Promise: safe} })
			what := fmt.Sprintf("Safe %d, Ballot %d", safe, ballot)
			if ballot == 8 {
				recTicks(t, what, r, nil, recSaidYes(2, 4), recHasBest(disk.Slots...))
			} else {
				recTicks(t, what, r, nil)
			}
		}
	}
	// Of 4 there must be 3.
	tries := recWith(recTrier(), recHasBallot(8))
	merged := recHasBest(recSlot(5, "b"), recSlot(8, "b"), recSlot(3, ""), recSlot(8, "d"))
	for _, c := range []struct{ had, want []int }{{nil, []int{2}}, {[]int{1}, []int{1, 2}}, {[]int{2}, []int{2}}, {[]int{2, 4}, []int{2, 4}}, {[]int{3}, []int{2, 3}}} {
		recTicks(t, fmt.Sprint("Yes ", c.had), recWith(tries, recSaidYes(c.had...)), nil, recSaidYes(c.want...), merged)
	}
	// Nobody but one that tries does.
	recTicks(t, "leading", recWith(recCaptain(), recHasAcks()), recLedOn(1, "b", "c", "", "e"), recHasAcks(recAck(2, 2), recAck(5, 2)))
	recTicks(t, "quiet", recAwake(), nil)
	recTicks(t, "quiet, and nothing promised", impl.RecNew(2, 3), nil)
}

// With its own promise there may be more than half: then it leads, in this very tick.
func TestRecTickComesToLead(t *testing.T) {
	// Best is c for place 3, under 3, and the Disk has nothing there; place 4 is the Disk's alone.
	r := recWith(recTrier(), recHasBallot(8), recHasBest(recSlot(9, "x"), recSlot(9, "y"), recSlot(3, "c")))
	slots := recSlots(recSlot(2, "a"), recSlot(8, "b"), recSlot(8, "c"), recSlot(8, "d"), recSlot(8, "e"), recSlot(8, "f"))
	// What was safe under its Ballot is taken: b and d. The wish d is there.
	want := recLeadsWith(2, 4, 8, 2, "c", "d", "e", "f")
	for _, yes := range [][]int{{1, 4}, {3, 4}, {1, 2, 3}, {1, 3, 4}, {1, 2, 3, 4}} {
		recTicks(t, fmt.Sprint("Yes ", yes), recWith(r, recSaidYes(yes...)), want, recComesToLead, recHasSlots(slots...), recHasAcks(recAck(2, 2), recAck(4, 2)))
	}
	needed := []int{1: 1, 2: 2, 3: 2, 4: 3, 5: 3}
	for of := 1; of <= 5; of++ {
		for number := 1; number <= of; number++ {
			r := recWith(impl.RecNew(number, of), recPromises(9), recHasBallot(9), recWishes("w"), func(r *impl.Recorder) { r.Trying = true })
			var others []int
			for other := 1; other <= of; other++ {
				what := fmt.Sprintf("%d of %d, Yes %v", number, of, others)
				if r := recWith(r, recSaidYes(others...)); len(others)+1 >= needed[of] {
					recTicks(t, what, r, recLeadsWith(number, of, 9, 0, "w"), recComesToLead, recHasSlots(recSlot(9, "w")))
				} else {
					recTicks(t, what, r, nil, recSaidYes(recJoined(others, number)...))
				}
				if other != number {
					others = append(others, other)
				}
			}
		}
	}
}

// One alone needs nobody: what it has had is known as soon as it is safe under its Ballot.
func TestRecTickOfOneAlone(t *testing.T) {
	r := recWith(impl.RecNew(1, 1), recPromises(5), recHasSlots(recSlot(3, "a"), recSlot(4, "b")), recKnows(1), recHeardFor(7), recWishes("b", "c"))
	r = recTicks(t, "tries", r, nil, recTriesAnew(6))
	r = recTicks(t, "leads", r, nil, recComesToLead, recHasSlots(recSlot(3, "a"), recSlot(6, "b"), recSlot(6, "c")))
	r = recTicks(t, "knows", r, nil, recHasAcks(recAck(2, 1), recAck(3, 1)), recKnows(3))
	r = recTicks(t, "has no wishes left", r, nil, recWishes())
	// What it had taken under the same Ballot before is known in the tick in which it leads.
	again := recWith(impl.RecNew(1, 1), recPromises(6), recHasSlots(recSlot(6, "a"), recSlot(5, "b")), recHasBallot(6), func(r *impl.Recorder) { r.Trying = true })
	recTicks(t, "leads and knows", again, nil, recComesToLead, recHasSlots(recSlot(6, "a"), recSlot(6, "b")), recHasAcks(recAck(1, 1)), recKnows(1))
}

// One that comes to lead in a tick does not try anew, for however long it has waited.
func TestRecTickComesToLeadInTheEnd(t *testing.T) {
	for _, ticks := range []int{9, 10, 11, 999, 999999, 1000000} {
		r := recWith(recTrier(), recHasBallot(8), recHasBest(), recWishes(), recHeardFor(ticks))
		slots := recSlots(recSlot(2, "a"), recSlot(8, "b"), recSlot(8, ""), recSlot(8, "d"))
		recTicks(t, fmt.Sprint(ticks, " ticks"), r, recLeadsWith(2, 4, 8, 2, "", "d"), recComesToLead, recHasSlots(slots...), recHasAcks(recAck(2, 2), recAck(4, 2)), recHeardFor(min(1000000, ticks+1)))
	}
	// One that leads never does, and one whose Promise is above its Ballot does.
	recTicks(t, "leading", recWith(recCaptain(), recHeardFor(500)), recLedOn(1, "b", "c", "", "e"), recHasAcks(recAck(2, 2), recAck(5, 2)))
	recTicks(t, "a Promise above its own", recWith(recTrier(), recHeardFor(10)), nil, recTriesAnew(10))
}
