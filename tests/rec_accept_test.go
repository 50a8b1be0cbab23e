package tests

import (
	"fmt"
	"testing"

	"loop.example/wharfdesk/impl"
)

func recAccept(from, ballot, index int, text string) impl.RecMessage {
	return impl.RecMessage{Kind: impl.RecAccept, From: from, To: 2, Ballot: ballot, Index: index, Text: text}
}

func recAccepted(to, ballot, index int) impl.RecMessage {
	return impl.RecMessage{Kind: impl.RecAccepted, To: to, Ballot: ballot, Index: index}
}

// recPuts is the slot at an Index, counted from 1, with empty ones ahead.
func recPuts(index, ballot int, text string) recTurn {
	return func(r *impl.Recorder) {
		if missing := index - len(r.Disk.Slots); missing > 0 {
			r.Disk.Slots = append(r.Disk.Slots, recSome(missing, recSlot(0, ""))...)
		}
		r.Disk.Slots[index-1] = recSlot(ballot, text)
	}
}

func recHasBallot(ballot int) recTurn {
	return func(r *impl.Recorder) { r.Ballot = ballot }
}

// The Disk's Promise is 8, the Ballot of those who lead or try 6. Whatever else is in the message, a Ballot below the Promise is refused.
func TestRecTakeAcceptBelowThePromise(t *testing.T) {
	for sort, made := range recUp() {
		for from := 1; from <= 4; from++ {
			for _, ballot := range []int{0, 1, 6, 7} {
				for _, index := range []int{0, 1, 2, 3, 5, 120} {
					what := fmt.Sprintf("%s, from %d, Ballot %d, Index %d", sort, from, ballot, index)
					recTakes(t, what, made(), recAccept(from, ballot, index, "n"), recRefuses(from))
				}
			}
		}
	}
}

// recAwake knows 2 places, its Disk has 4.
func TestRecTakeAccept(t *testing.T) {
	for sort, made := range recUp() {
		for _, ballot := range []int{8, 9, 1000000} {
			for _, text := range []string{"n", "", letters(160)} {
				for _, index := range []int{1, 2, 3, 4, 5, 6, 9, 119, 120} {
					for _, from := range []int{1, 4} {
						turns := []recTurn{recFollows(ballot), recPuts(index, ballot, text), recHolds(recAccepted(from, ballot, index))}
						if index <= 2 {
							turns = []recTurn{recFollows(ballot), recHolds(recAccepted(from, ballot, index))}
						}
						what := fmt.Sprintf("%s, from %d, Ballot %d, Index %d, %d bytes", sort, from, ballot, index, len(text))
						recTakes(t, what, made(), recAccept(from, ballot, index, text), turns...)
					}
				}
			}
		}
	}
}

// Index 0, Ballot 0 and From itself: nothing is done, and nothing is answered.
func TestRecTakeAcceptOfNothing(t *testing.T) {
	for sort, made := range recUp() {
		for _, ballot := range []int{8, 9} {
			recTakes(t, sort+", Index 0", made(), recAccept(1, ballot, 0, "n"))
			recTakes(t, sort+", from itself", made(), recAccept(2, ballot, 3, "n"))
			recTakes(t, sort+", from itself, Index 0", made(), recAccept(2, ballot, 0, "n"))
		}
	}
	fresh := recWith(impl.RecNew(2, 3), func(r *impl.Recorder) { r.Heard = 4 })
	recTakes(t, "a new one, Ballot 0", fresh, recAccept(1, 0, 1, "n"))
	recTakes(t, "a new one, Ballot 0 and no text", fresh, recAccept(1, 0, 1, ""))
	recTakes(t, "a new one, Ballot 0 and Index 0", fresh, recAccept(1, 0, 0, ""))
	recTakes(t, "a new one, Ballot 1", fresh, recAccept(1, 1, 1, "n"), recFollows(1), recHasSlots(recSlot(1, "n")), recHolds(recAccepted(1, 1, 1)))
}

// Under its own Ballot one goes on leading, or trying.
func TestRecTakeAcceptUnderItsOwn(t *testing.T) {
	for sort, made := range map[string]func() impl.Recorder{"leading": recLeader, "trying": recTrier} {
		own := recWith(made(), recHasBallot(8))
		recTakes(t, sort+", its own", own, recAccept(3, 8, 3, "n"), recHasHeard, recPuts(3, 8, "n"), recHolds(recAccepted(3, 8, 3)))
		recTakes(t, sort+", its own, of what is known", own, recAccept(3, 8, 2, "n"), recHasHeard, recHolds(recAccepted(3, 8, 2)))
		recTakes(t, sort+", one above its own", own, recAccept(3, 9, 3, "n"), recFollows(9), recPuts(3, 9, "n"), recHolds(recAccepted(3, 9, 3)))
	}
}

func TestRecTakeAcceptEdges(t *testing.T) {
	for _, n := range []int{398, 399, 400} {
		r := recWith(recLeader(), recFullTo(n))
		got := recTakes(t, fmt.Sprint(n, " held"), r, recAccept(1, 9, 5, "n"), recFollows(9), recPuts(5, 9, "n"), recHolds(recAccepted(1, 9, 5)))
		if len(got.Held) != min(400, n+1) {
			t.Errorf("%d held, then %d", n, len(got.Held))
		}
		recTakes(t, fmt.Sprint(n, " held, refused"), r, recAccept(1, 7, 5, "n"), recRefuses(1))
	}
	// What is known is what the Disk knows; what the message knows, and its slots, are of no use here.
	m := recAccept(1, 8, 3, "n")
	m.Known, m.Slots = 120, recSlots(recSlot(8, "y"))
	recTakes(t, "all else in the message", recAwake(), m, recFollows(8), recPuts(3, 8, "n"), recHolds(recAccepted(1, 8, 3)))
	safer := func(r *impl.Recorder) {
		r.Safe = impl.RecDisk{Promise: 20, Known: 3, Slots: recSome(3, recSlot(20, "s"))}
	}
	recTakes(t, "Safe ahead", recWith(recAwake(), safer), recAccept(1, 8, 3, "n"), recFollows(8), recPuts(3, 8, "n"), recHolds(recAccepted(1, 8, 3)))
	all := recWith(recAwake(), recHasSlots(recSome(120, recSlot(8, "k"))...), recKnows(120))
	recTakes(t, "all is known", all, recAccept(1, 9, 120, "n"), recFollows(9), recHolds(recAccepted(1, 9, 120)))
	most := recWith(recAwake(), recPromises(1000000))
	recTakes(t, "a Promise at its most", most, recAccept(1, 1000000, 3, "n"), recFollows(1000000), recPuts(3, 1000000, "n"), recHolds(recAccepted(1, 1000000, 3)))
	recTakes(t, "one below a Promise at its most", most, recAccept(1, 999999, 3, "n"), recRefuses(1))
}

// recChief leads 5 under 8 and knows 2 places. What it has for 5 is of another ballot, for 7 there is nothing yet, and for 9 no slot.
func recChief() impl.Recorder {
	return impl.Recorder{
		Number: 2, Of: 5, Up: true, Lead: true, Ballot: 8, Heard: 3,
		Disk: impl.RecDisk{Promise: 8, Known: 2, Slots: recSlots(recSlot(2, "a"), recSlot(8, "b"), recSlot(8, "c"), recSlot(8, ""), recSlot(7, "e"), recSlot(8, "f"), recSlot(0, ""), recSlot(8, "h"))},
		Acks: []impl.RecAck{recAck(3, 2), recAck(4, 1, 2, 3), recAck(5, 1, 3, 4, 5), recAck(9, 3)},
		Held: []impl.RecMessage{{Kind: impl.RecRefuse, From: 2, To: 5, Ballot: 8}}, Wishes: []string{"w"},
	}
}

func recAck(index int, from ...int) impl.RecAck {
	return impl.RecAck{Index: index, From: from}
}

func recHasAcks(list ...impl.RecAck) recTurn {
	return func(r *impl.Recorder) { r.Acks = list }
}

// recTook is an answer to one that leads under 8.
func recTook(from, index int) impl.RecMessage {
	return impl.RecMessage{Kind: impl.RecAccepted, From: from, To: 2, Ballot: 8, Index: index}
}

func TestRecTakeAccepted(t *testing.T) {
	three, four, five, nine := recAck(3, 2), recAck(4, 1, 2, 3), recAck(5, 1, 3, 4, 5), recAck(9, 3)
	for _, c := range []struct {
		what        string
		from, index int
		want        []impl.RecAck
	}{
		{"one more, ahead", 1, 3, []impl.RecAck{recAck(3, 1, 2), four, five, nine}},
		{"one more, behind", 4, 3, []impl.RecAck{recAck(3, 2, 4), four, five, nine}},
		{"one more, between", 2, 5, []impl.RecAck{three, four, recAck(5, 1, 2, 3, 4, 5), nine}},
		{"one more of the last", 5, 9, []impl.RecAck{three, four, five, recAck(9, 3, 5)}},
		{"one more of the last, not enough, itself", 2, 9, []impl.RecAck{three, four, five, recAck(9, 2, 3)}},
		{"one that was there", 2, 3, []impl.RecAck{three, four, five, nine}},
		{"one that was there, among others", 2, 4, []impl.RecAck{three, four, five, nine}},
		{"one that was there, of the last", 3, 9, []impl.RecAck{three, four, five, nine}},
		{"a new Index ahead", 1, 1, []impl.RecAck{recAck(1, 1), three, four, five, nine}},
		{"a new Index ahead, that is known", 4, 2, []impl.RecAck{recAck(2, 4), three, four, five, nine}},
		{"a new Index between", 5, 6, []impl.RecAck{three, four, five, recAck(6, 5), nine}},
		{"a new Index between, of an empty slot", 5, 7, []impl.RecAck{three, four, five, recAck(7, 5), nine}},
		{"a new Index behind", 1, 10, []impl.RecAck{three, four, five, nine, recAck(10, 1)}},
		{"a new Index behind, the last there is", 2, 120, []impl.RecAck{three, four, five, nine, recAck(120, 2)}},
	} {
		recTakes(t, c.what, recChief(), recTook(c.from, c.index), recHasAcks(c.want...))
		full := recWith(recChief(), recFullTo(400))
		recTakes(t, c.what+", with Held full", full, recTook(c.from, c.index), recHasAcks(c.want...))
	}
	recTakes(t, "the first of all", recWith(recChief(), recHasAcks()), recTook(5, 3), recHasAcks(recAck(3, 5)))
}

func TestRecTakeAcceptedUnderAnother(t *testing.T) {
	for _, ballot := range []int{0, 1, 7, 9, 1000000} {
		m := recTook(1, 3)
		m.Ballot = ballot
		recTakes(t, fmt.Sprint("Ballot ", ballot), recChief(), m)
	}
	recTakes(t, "Index 0", recChief(), recTook(1, 0))
	recTakes(t, "quiet", recAwake(), recTook(1, 3))
	recTakes(t, "trying", recWith(recTrier(), recHasBallot(8)), recTook(1, 3))
	recTakes(t, "leading under another", recLeader(), recTook(1, 3))
	nothing := recTook(1, 1)
	nothing.Ballot = 0
	recTakes(t, "quiet, and Ballot 0 as its own", recAwake(), nothing)
	// The leader's own Ballot counts, not the Disk's Promise.
	raised := recWith(recChief(), recPromises(20), recHasAcks())
	recTakes(t, "a Promise above its own", raised, recTook(1, 3), recHasAcks(recAck(3, 1)))
}

// With one more of 5 there are more than half for an Index.
func TestRecTakeAcceptedByMoreThanHalf(t *testing.T) {
	slots := func(list ...impl.RecSlot) []impl.RecSlot {
		return append(recSlots(recSlot(2, "a"), recSlot(8, "b")), list...)
	}
	own, other, none := recSlot(8, "c"), recSlot(7, "c"), recSlot(0, "")
	for _, c := range []struct {
		what  string
		slots []impl.RecSlot
		index int
		known int
	}{
		{"Known + 1", slots(own), 3, 3},
		{"Known + 1, with more behind", slots(own, own), 3, 3},
		{"Known + 1, with no text", slots(recSlot(8, "")), 3, 3},
		{"Known + 2", slots(own, own), 4, 2},
		{"Known + 9", slots(recSome(9, own)...), 11, 2},
		{"Known", slots(own), 2, 2},
		{"below Known", slots(own), 1, 2},
		{"no slot", slots(), 3, 2},
		{"no slot, far behind", slots(own), 120, 2},
		{"another Ballot", slots(other), 3, 2},
		{"a Ballot above", slots(recSlot(9, "c")), 3, 2},
		{"an empty slot", slots(none, own), 3, 2},
	} {
		r := recWith(recChief(), recPromises(9), recHasSlots(c.slots...), recHasAcks(recAck(c.index, 1, 4)))
		for _, from := range []int{2, 3, 5} {
			after := map[int]recTurn{2: recHasAcks(recAck(c.index, 1, 2, 4)), 3: recHasAcks(recAck(c.index, 1, 3, 4)), 5: recHasAcks(recAck(c.index, 1, 4, 5))}[from]
			recTakes(t, fmt.Sprintf("%s, from %d", c.what, from), r, recTook(from, c.index), after, recKnows(c.known))
		}
	}
}

func TestRecTakeAcceptedOfEachCount(t *testing.T) {
	needed := []int{1: 1, 2: 2, 3: 2, 4: 3, 5: 3}
	for of := 1; of <= 5; of++ {
		r := impl.Recorder{Number: of, Of: of, Up: true, Disk: impl.RecDisk{Promise: 8, Slots: recSlots(recSlot(8, "a"))}, Lead: true, Ballot: 8}
		for count := 1; count <= of; count++ {
			for range 2 {
				r = impl.RecTake(r, impl.RecMessage{Kind: impl.RecAccepted, From: of + 1 - count, To: of, Ballot: 8, Index: 1})
				want := 0
				if count >= needed[of] {
					want = 1
				}
				if r.Disk.Known != want || len(r.Acks) != 1 || len(r.Acks[0].From) != count || !impl.RecValid(r) {
					t.Errorf("%d of %d took it: %+v", count, of, r)
				}
			}
		}
	}
}

// All of Acks are gone through, in order: what is known makes way for what is behind it.
func TestRecTakeAcceptedOfSeveral(t *testing.T) {
	most := []int{1, 2, 3}
	recTakes(t, "up to a slot of another ballot", recWith(recChief(), recHasAcks(recAck(3, 2, 4), recAck(4, most...), recAck(5, most...), recAck(6, most...))), recTook(5, 3),
		recHasAcks(recAck(3, 2, 4, 5), recAck(4, most...), recAck(5, most...), recAck(6, most...)), recKnows(4))
	recTakes(t, "up to one that too few took", recWith(recChief(), recHasAcks(recAck(3, 2, 4), recAck(4, 1, 2), recAck(5, most...))), recTook(5, 3),
		recHasAcks(recAck(3, 2, 4, 5), recAck(4, 1, 2), recAck(5, most...)), recKnows(3))
	recTakes(t, "up to one that nobody took", recWith(recChief(), recHasAcks(recAck(3, 2, 4), recAck(5, most...), recAck(6, most...))), recTook(5, 3),
		recHasAcks(recAck(3, 2, 4, 5), recAck(5, most...), recAck(6, most...)), recKnows(3))
	recTakes(t, "by what is told of another Index", recWith(recChief(), recHasAcks(recAck(3, most...), recAck(4, most...))), recTook(5, 9),
		recHasAcks(recAck(3, most...), recAck(4, most...), recAck(9, 5)), recKnows(4))
	recTakes(t, "by one that was there", recWith(recChief(), recHasAcks(recAck(3, most...))), recTook(1, 3), recKnows(3))
	recTakes(t, "those of what is known are not in the way", recWith(recChief(), recHasAcks(recAck(1, 1), recAck(2), recAck(3, 1, 5))), recTook(2, 3),
		recHasAcks(recAck(1, 1), recAck(2), recAck(3, 1, 2, 5)), recKnows(3))
	var acks []impl.RecAck
	for index := 2; index <= 120; index++ {
		acks = append(acks, recAck(index, most...))
	}
	all := recWith(recChief(), recHasSlots(recSome(120, recSlot(8, "k"))...), recKnows(0), recHasAcks(append([]impl.RecAck{recAck(1, 1, 3)}, acks...)...))
	recTakes(t, "all places", all, recTook(2, 1), recHasAcks(append([]impl.RecAck{recAck(1, most...)}, acks...)...), recKnows(120))
}
