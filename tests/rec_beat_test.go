package tests

import (
	"fmt"
	"testing"

	"loop.example/wharfdesk/impl"
)

func recBeat(from, ballot, known int) impl.RecMessage {
	return impl.RecMessage{Kind: impl.RecBeat, From: from, To: 2, Ballot: ballot, Known: known}
}

func recNeed(to, ballot, index int) impl.RecMessage {
	return impl.RecMessage{Kind: impl.RecNeed, To: to, Ballot: ballot, Index: index}
}

// recTellsWishes holds a RecWished for each of Wishes.
func recTellsWishes(to int) recTurn {
	return func(r *impl.Recorder) {
		for _, text := range r.Wishes {
			recHolds(impl.RecMessage{Kind: impl.RecWished, To: to, Text: text})(r)
		}
	}
}

// The Disk's Promise is 8, the Ballot of those who lead or try 6. All have Wishes, of which nothing is told to who is refused.
func TestRecTakeBeatBelowThePromise(t *testing.T) {
	for sort, made := range recUp() {
		for from := 1; from <= 4; from++ {
			for _, ballot := range []int{0, 1, 6, 7} {
				for _, known := range []int{0, 2, 3, 120} {
					what := fmt.Sprintf("%s, from %d, Ballot %d, Known %d", sort, from, ballot, known)
					recTakes(t, what, made(), recBeat(from, ballot, known), recRefuses(from))
				}
			}
		}
	}
}

// Ballot 0 and From itself: nothing is done, and nothing is told.
func TestRecTakeBeatOfNobody(t *testing.T) {
	for sort, made := range recUp() {
		for _, ballot := range []int{8, 9} {
			recTakes(t, sort+", from itself", made(), recBeat(2, ballot, 4))
		}
	}
	fresh := recWith(impl.RecNew(2, 3), func(r *impl.Recorder) { r.Heard, r.Wishes = 4, []string{"w"} })
	recTakes(t, "a new one, Ballot 0", fresh, recBeat(1, 0, 0))
	recTakes(t, "a new one, Ballot 0 and something known", fresh, recBeat(1, 0, 2))
	blank := recWith(fresh, recHasSlots(recSlot(0, "")))
	recTakes(t, "an empty slot, Ballot 0", blank, recBeat(1, 0, 1))
	recTakes(t, "a new one, Ballot 1", fresh, recBeat(1, 1, 0), recFollows(1), recTellsWishes(1))
}

// recAwake knows 2 places; the next one is empty.
func TestRecTakeBeat(t *testing.T) {
	for sort, made := range recUp() {
		for _, from := range []int{1, 3, 4} {
			for _, ballot := range []int{8, 9, 1000000} {
				for _, known := range []int{0, 1, 2} {
					what := fmt.Sprintf("%s, from %d, Ballot %d, Known %d", sort, from, ballot, known)
					recTakes(t, what, made(), recBeat(from, ballot, known), recFollows(ballot), recTellsWishes(from))
				}
				for _, known := range []int{3, 4, 5, 120} {
					what := fmt.Sprintf("%s, from %d, Ballot %d, Known %d", sort, from, ballot, known)
					recTakes(t, what, made(), recBeat(from, ballot, known), recFollows(ballot), recHolds(recNeed(from, ballot, 3)), recTellsWishes(from))
				}
			}
		}
	}
}

func TestRecTakeBeatUnderItsOwn(t *testing.T) {
	for sort, made := range map[string]func() impl.Recorder{"leading": recLeader, "trying": recTrier} {
		own := recWith(made(), recHasBallot(8))
		recTakes(t, sort+", its own", own, recBeat(3, 8, 2), recHasHeard, recTellsWishes(3))
		recTakes(t, sort+", its own, with more known", own, recBeat(3, 8, 3), recHasHeard, recHolds(recNeed(3, 8, 3)), recTellsWishes(3))
		recTakes(t, sort+", one above its own", own, recBeat(3, 9, 2), recFollows(9), recTellsWishes(3))
	}
}

// What is known by a beat is what was taken under its Ballot, without a gap, and not more than the one who leads knows.
func TestRecTakeBeatIsKnown(t *testing.T) {
	own, older, newer, none := recSlot(8, "o"), recSlot(7, "p"), recSlot(9, "q"), recSlot(0, "")
	for _, c := range []struct {
		what      string
		known     int
		slots     []impl.RecSlot
		told      int
		wantKnown int
		wantNeed  int
	}{
		{"below its own", 2, recSlots(own, own, own), 1, 2, 0},
		{"at its own", 2, recSlots(own, own, own), 2, 2, 0},
		{"one more", 2, recSlots(own, own, own, own), 3, 3, 0},
		{"two more", 2, recSlots(own, own, own, own), 4, 4, 0},
		{"from the first", 0, recSlots(own, own, own), 3, 3, 0},
		{"with no text", 0, recSlots(recSlot(8, "")), 1, 1, 0},
		{"the end of the slots", 2, recSlots(own, own, own), 4, 3, 4},
		{"the end of the slots, far ahead", 2, recSlots(own, own, own), 120, 3, 4},
		{"the end of the slots at once", 2, recSlots(own, own), 3, 2, 3},
		{"no slots", 0, nil, 1, 0, 1},
		{"no slots, and nothing is known", 0, nil, 0, 0, 0},
		{"an older one", 1, recSlots(older, older), 2, 1, 2},
		{"an older one behind", 1, recSlots(older, own, older, own), 4, 2, 3},
		{"an older one that is known already", 1, recSlots(older, own), 2, 2, 0},
		{"an older one behind what is told", 1, recSlots(older, own, older), 2, 2, 0},
		{"a gap", 1, recSlots(own, none, own), 3, 1, 2},
		{"a gap behind", 1, recSlots(own, own, none, own), 4, 2, 3},
		{"119 slots", 0, recSome(119, own), 120, 119, 120},
		{"120 slots", 0, recSome(120, own), 120, 120, 0},
		{"120 slots, not all of them told", 0, recSome(120, own), 119, 119, 0},
		{"120 slots that are known", 120, recSome(120, own), 120, 120, 0},
		{"120 slots that are known, and less told", 120, recSome(120, own), 0, 120, 0},
	} {
		r := recWith(recAwake(), recHasSlots(c.slots...), recKnows(c.known))
		turns := []recTurn{recFollows(8), recKnows(c.wantKnown)}
		if c.wantNeed > 0 {
			turns = append(turns, recHolds(recNeed(4, 8, c.wantNeed)))
		}
		recTakes(t, c.what, r, recBeat(4, 8, c.told), append(turns, recTellsWishes(4))...)
	}
	// A new Ballot makes nothing known of what was taken under the one ahead, and the other way round.
	r := recWith(recAwake(), recPromises(9), recHasSlots(newer, older, newer), recKnows(0))
	recTakes(t, "Ballot 9", r, recBeat(1, 9, 3), recFollows(9), recKnows(1), recHolds(recNeed(1, 9, 2)), recTellsWishes(1))
	recTakes(t, "Ballot 10", r, recBeat(1, 10, 3), recFollows(10), recHolds(recNeed(1, 10, 1)), recTellsWishes(1))
}

func TestRecTakeBeatEdges(t *testing.T) {
	m := recBeat(1, 8, 3)
	m.Index, m.Text, m.Slots = 7, "z", recSlots(recSlot(8, "y"), recSlot(8, "y"), recSlot(8, "y"))
	recTakes(t, "all else in the message", recAwake(), m, recFollows(8), recHolds(recNeed(1, 8, 3)), recTellsWishes(1))
	recTakes(t, "no Wishes", recWith(recAwake(), func(r *impl.Recorder) { r.Wishes = nil }), recBeat(1, 8, 3), recFollows(8), recHolds(recNeed(1, 8, 3)))
	var twenty []string
	for i := range 20 {
		twenty = append(twenty, fmt.Sprint("wish ", 20-i))
	}
	recTakes(t, "20 Wishes", recWith(recAwake(), func(r *impl.Recorder) { r.Wishes = twenty }), recBeat(1, 8, 2), recFollows(8), recTellsWishes(1))
	// A wish is told also if it is known by this very beat: it goes with the next tick.
	known := recWith(recAwake(), recHasSlots(recSlot(8, "e"), recSlot(8, "d"), recSlot(8, "f")), recKnows(0))
	recTakes(t, "Wishes that are known by now", known, recBeat(1, 8, 3), recFollows(8), recKnows(3), recTellsWishes(1))
	// Of what is needed and three Wishes the first ones are held.
	for _, n := range []int{395, 396, 397, 398, 399, 400} {
		r := recWith(recLeader(), recFullTo(n))
		got := recTakes(t, fmt.Sprint(n, " held"), r, recBeat(1, 8, 3), recFollows(8), recHolds(recNeed(1, 8, 3)), recTellsWishes(1))
		if len(got.Held) != min(400, n+4) {
			t.Errorf("%d held, then %d", n, len(got.Held))
		}
		recTakes(t, fmt.Sprint(n, " held, nothing needed"), r, recBeat(1, 8, 2), recFollows(8), recTellsWishes(1))
		recTakes(t, fmt.Sprint(n, " held, refused"), r, recBeat(1, 7, 3), recRefuses(1))
	}
}

func recChosen(from, ballot, index int, text string) impl.RecMessage {
	return impl.RecMessage{Kind: impl.RecChosen, From: from, To: 2, Ballot: ballot, Index: index, Text: text}
}

// The Disk's Promise is 8, and 2 places are known; none becomes quiet, and nobody is heard of.
func TestRecTakeChosen(t *testing.T) {
	for sort, made := range recUp() {
		for from := 1; from <= 4; from++ {
			for _, ballot := range []int{0, 1, 6, 7, 8, 9, 1000000} {
				for _, index := range []int{0, 1, 2, 3, 4, 5, 120} {
					for _, text := range []string{"n", "", letters(160)} {
						what := fmt.Sprintf("%s, from %d, Ballot %d, Index %d", sort, from, ballot, index)
						if index == 3 && ballot >= 1 && ballot <= 8 {
							recTakes(t, what, made(), recChosen(from, ballot, index, text), recPuts(3, ballot, text), recKnows(3))
						} else {
							recTakes(t, what, made(), recChosen(from, ballot, index, text))
						}
					}
				}
			}
		}
	}
}

func TestRecTakeChosenEdges(t *testing.T) {
	other := recWith(recAwake(), recPuts(3, 8, "c"))
	other.Disk.Slots[3] = recSlot(8, "d")
	recTakes(t, "another slot is there", other, recChosen(1, 1, 3, "n"), recPuts(3, 1, "n"), recKnows(3))
	recTakes(t, "another text is there", other, recChosen(1, 8, 3, "n"), recPuts(3, 8, "n"), recKnows(3))
	recTakes(t, "the same slot is there", other, recChosen(1, 8, 3, "c"), recKnows(3))
	two := recWith(recAwake(), recHasSlots(recSlot(1, "a"), recSlot(1, "b")))
	recTakes(t, "one more slot", two, recChosen(1, 8, 3, "n"), recHasSlots(recSlot(1, "a"), recSlot(1, "b"), recSlot(8, "n")), recKnows(3))
	recTakes(t, "two more slots", two, recChosen(1, 8, 4, "n"))
	fresh := impl.RecNew(2, 3)
	recTakes(t, "a new one, that promised nothing", fresh, recChosen(1, 1, 1, "n"))
	recTakes(t, "a new one, Ballot 0", fresh, recChosen(1, 0, 1, "n"))
	recTakes(t, "a new one, Ballot 0 and no text", fresh, recChosen(1, 0, 1, ""))
	recTakes(t, "the first slot", recWith(fresh, recPromises(1)), recChosen(1, 1, 1, "n"), recHasSlots(recSlot(1, "n")), recKnows(1))
	last := recWith(recAwake(), recHasSlots(recSome(119, recSlot(8, "k"))...), recKnows(119))
	recTakes(t, "the last slot", last, recChosen(1, 8, 120, "n"), recPuts(120, 8, "n"), recKnows(120))
	all := recWith(recAwake(), recHasSlots(recSome(120, recSlot(8, "k"))...), recKnows(120))
	recTakes(t, "all is known", all, recChosen(1, 8, 120, "n"))
	recTakes(t, "Held full", recWith(recAwake(), recFullTo(400)), recChosen(1, 8, 3, "n"), recPuts(3, 8, "n"), recKnows(3))
	// Wishes stay, also of what is known by now; acks behind it do not count by this.
	leader := recWith(recLeader(), recHasAcks(recAck(4, 1, 2, 3)), recHasBallot(8))
	recTakes(t, "leading, with what is behind it taken", leader, recChosen(1, 8, 3, "e"), recPuts(3, 8, "e"), recKnows(3))
	// The Disk's Known counts, not what is Safe or what the message knows.
	m := recChosen(1, 8, 3, "n")
	m.Known, m.Slots = 9, recSlots(recSlot(1, "z"))
	safer := func(r *impl.Recorder) {
		r.Safe = impl.RecDisk{Promise: 20, Known: 3, Slots: recSome(3, recSlot(20, "s"))}
	}
	recTakes(t, "all else in the message", recWith(recAwake(), safer), m, recPuts(3, 8, "n"), recKnows(3))
	above := recChosen(1, 20, 3, "n")
	recTakes(t, "a Ballot that is Safe, above the Disk's Promise", recWith(recAwake(), safer), above)
}

// recTeller leads under 8, and knows 7 of 9 places, most of them of older ballots.
func recTeller() impl.Recorder {
	slots := recNumbered(9, "t", func(place int) int { return 1 + place%8 })
	return recWith(recChief(), recHasSlots(slots...), recKnows(7), recHasAcks(recAck(8, 1)))
}

func TestRecTakeNeed(t *testing.T) {
	told := []struct{ index, last int }{{0, -1}, {1, 5}, {2, 6}, {3, 7}, {4, 7}, {6, 7}, {7, 7}, {8, 7}, {9, 7}, {120, 7}}
	for _, c := range told {
		for _, from := range []int{1, 2, 5} {
			for _, ballot := range []int{0, 7, 8, 9, 1000000} {
				var chosen []impl.RecMessage
				for index := c.index; index <= c.last; index++ {
					chosen = append(chosen, impl.RecMessage{Kind: impl.RecChosen, To: from, Ballot: 8, Index: index, Text: fmt.Sprint("t", index-1)})
				}
				m := impl.RecMessage{Kind: impl.RecNeed, From: from, To: 2, Ballot: ballot, Index: c.index, Known: 120, Text: "z"}
				recTakes(t, fmt.Sprintf("from %d, Ballot %d, Index %d", from, ballot, c.index), recTeller(), m, recHolds(chosen...))
			}
		}
	}
	need := func(index int) impl.RecMessage {
		return impl.RecMessage{Kind: impl.RecNeed, From: 1, To: 2, Ballot: 8, Index: index}
	}
	for index := range 5 {
		recTakes(t, fmt.Sprint("quiet, Index ", index), recAwake(), need(index))
		recTakes(t, fmt.Sprint("trying, Index ", index), recTrier(), need(index))
		recTakes(t, fmt.Sprint("leading, with nothing known, Index ", index), recWith(recTeller(), recKnows(0)), need(index))
	}
	all := recWith(recTeller(), recHasSlots(recSome(120, recSlot(8, "k"))...), recKnows(120))
	last := impl.RecMessage{Kind: impl.RecChosen, To: 1, Ballot: 8, Index: 120, Text: "k"}
	recTakes(t, "the last place", all, need(120), recHolds(last))
	five := []impl.RecMessage{}
	for index := 116; index <= 120; index++ {
		five = append(five, impl.RecMessage{Kind: impl.RecChosen, To: 1, Ballot: 8, Index: index, Text: "k"})
	}
	recTakes(t, "the last five places", all, need(116), recHolds(five...))
	for _, n := range []int{394, 395, 396, 398, 399, 400} {
		got := recTakes(t, fmt.Sprint(n, " held"), recWith(all, recFullTo(n)), need(116), recHolds(five...))
		if len(got.Held) != min(400, n+5) {
			t.Errorf("%d held, then %d", n, len(got.Held))
		}
	}
}
