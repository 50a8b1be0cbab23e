package tests

import (
	"fmt"
	"math"
	"slices"
	"testing"

	"loop.example/wharfdesk/impl"
)

// recCalms says what so many rounds make of a world.
func recCalms(t *testing.T, what string, w impl.RecWorld, rounds int, want impl.RecWorld) impl.RecWorld {
	t.Helper()
	return recBecomes(t, what, w, func(w impl.RecWorld) impl.RecWorld { return impl.RecCalm(w, rounds) }, want)
}

// recByEvents is so many rounds, event by event.
func recByEvents(w impl.RecWorld, rounds int) impl.RecWorld {
	for range rounds {
		w = impl.RecDo(w, recEvent(impl.RecEvTick, 0))
		for range len(w.Flight) {
			w = impl.RecDo(w, recEvent(impl.RecEvBring, 0))
		}
	}
	return w
}

// One alone that leads counts its ticks.
func TestRecCalmRounds(t *testing.T) {
	alone := impl.RecWorld{Recorders: []impl.Recorder{{Number: 1, Of: 1, Up: true, Lead: true, Ballot: 4, Heard: 6, Safe: impl.RecDisk{Promise: 4}, Disk: impl.RecDisk{Promise: 4}}}}
	for rounds, want := range map[int]int{
		math.MinInt: 0, -1000: 0, -2: 0, -1: 0, 0: 0, 1: 1, 2: 2, 3: 3, 20: 20, 500: 500,
		999: 999, 1000: 1000, 1001: 1000, 1002: 1000, 2000: 1000, 1000000: 1000, math.MaxInt: 1000,
	} {
		recCalms(t, fmt.Sprint(rounds, " rounds"), alone, rounds, recWorldWith(alone, recOne(0, recHeardFor(6+want))))
	}
	for _, rounds := range []int{math.MinInt, -1, 0} {
		for name, w := range map[string]impl.RecWorld{"a port": recPort(), "unnoted": recUnnoted(), "full": recWorldWith(recPort(), recFlies(recMany(600)...)), "new": impl.RecNewWorld(5)} {
			recCalms(t, fmt.Sprintf("%s, %d rounds", name, rounds), w, rounds, w)
		}
	}
}

func TestRecCalmNotOk(t *testing.T) {
	for what, w := range recNotOk() {
		for _, rounds := range []int{math.MinInt, -1, 0, 1, 2, 1000, 1001, math.MaxInt} {
			recCalms(t, fmt.Sprintf("%s, %d rounds", what, rounds), w, rounds, impl.RecWorld{})
		}
	}
}

// A round of recPort, once without any help.
func TestRecCalmOneRound(t *testing.T) {
	want := recWorldWith(impl.RecDo(recPort(), recEvent(impl.RecEvTick, 0)), recFlies())
	// The first takes the wish, and hears that the second place was taken by most; then it follows the one who asks for a promise under 8.
	recIsQuiet(&want.Recorders[0])
	want.Recorders[0].Heard, want.Recorders[0].Wishes = 0, []string{"c", "w", "x"}
	want.Recorders[0].Disk.Promise, want.Recorders[0].Disk.Known = 8, 2
	recHolds(impl.RecMessage{Kind: impl.RecPromised, To: 2, Ballot: 8, Slots: want.Recorders[0].Disk.Slots})(&want.Recorders[0])
	want.Fixed = append(want.Fixed, recFix(2, "b"))
	// The second refuses the beat, then leads by what the third has promised, and refuses all else that comes under 7.
	recRefuses(1)(&want.Recorders[1])
	recComesToLead(&want.Recorders[1])
	want.Recorders[1].Disk.Slots = recSlots(recSlot(4, "a"), recSlot(8, "e"), recSlot(8, "g"))
	for range 4 {
		recRefuses(1)(&want.Recorders[1])
	}
	recCalms(t, "one round", recPort(), 1, want)
}

// In a round in which nothing is in flight behind the tick, nothing but the tick happens.
func TestRecCalmWithNothingInFlight(t *testing.T) {
	for of := 1; of <= 5; of++ {
		for rounds := 1; rounds <= 7; rounds++ {
			recCalms(t, fmt.Sprintf("of %d, %d rounds", of, rounds), impl.RecNewWorld(of), rounds, recWorldWith(impl.RecNewWorld(of), func(w *impl.RecWorld) {
				for at := range w.Recorders {
					w.Recorders[at].Heard = rounds
				}
			}))
		}
	}
}

// What is held by what is brought in a round is not brought in that round: it is sent in the next one.
func TestRecCalmBringsWhatWasInFlight(t *testing.T) {
	w := impl.RecNewWorld(2)
	w.Recorders[0].Held = []impl.RecMessage{{Kind: impl.RecPrepare, From: 1, To: 2, Ballot: 1}}
	w.Flight = []impl.RecMessage{{Kind: impl.RecPrepare, From: 2, To: 1, Ballot: 2}}
	promised := func(from, ballot int) impl.RecMessage {
		return impl.RecMessage{Kind: impl.RecPromised, From: from, To: 3 - from, Ballot: ballot}
	}
	recCalms(t, "one round", w, 1, recWorldWith(impl.RecNewWorld(2),
		recOne(0, recPromises(2), recHolds(promised(1, 2))),
		recOne(1, recPromises(1), recHolds(promised(2, 1)))))
	recCalms(t, "two rounds", w, 2, recWorldWith(impl.RecNewWorld(2),
		recOne(0, recPromises(2), recHeardFor(1), func(r *impl.Recorder) { r.Safe.Promise = 2 }),
		recOne(1, recPromises(1), recHeardFor(1), func(r *impl.Recorder) { r.Safe.Promise = 1 })))
}

// Messages are brought from the first on: what stands behind counts by what stands ahead of it.
func TestRecCalmBringsInOrder(t *testing.T) {
	for _, ballots := range [][]int{{1, 2, 3}, {3, 2, 1}, {2, 2}, {2, 3, 1, 4}, {1, 1, 1}} {
		w := impl.RecNewWorld(3)
		var held []impl.RecMessage
		promise := 0
		for _, ballot := range ballots {
			w.Flight = append(w.Flight, impl.RecMessage{Kind: impl.RecPrepare, From: 2, To: 1, Ballot: ballot})
			if ballot > promise {
				promise = ballot
				held = append(held, impl.RecMessage{Kind: impl.RecPromised, To: 2, Ballot: ballot})
			} else {
				held = append(held, impl.RecMessage{Kind: impl.RecRefuse, To: 2, Ballot: promise})
			}
		}
		recCalms(t, fmt.Sprint(ballots), w, 1, recWorldWith(impl.RecNewWorld(3), recOne(0, recPromises(promise), recHolds(held...)), recOne(1, recHeardFor(1)), recOne(2, recHeardFor(1))))
	}
}

// A flight that is full, and one that becomes so: all that there was room for is brought, and no more.
func TestRecCalmFullFlight(t *testing.T) {
	for _, flying := range []int{590, 595, 599, 600} {
		w := recHolders()
		w.Flight = recMany(flying)
		got := recCalms(t, fmt.Sprint(flying, " in flight"), w, 1, recByEvents(w, 1))
		var want []string
		for i := range min(10, 600-flying) {
			want = append(want, []string{"1-0", "1-1", "1-2", "2-0", "2-1", "2-2", "2-3", "3-0", "3-1", "3-2"}[i])
		}
		if len(got.Flight) != 0 || len(got.Recorders[0].Wishes) != 20 || !slices.Equal(got.Recorders[1].Wishes, want) {
			t.Errorf("%d in flight: %q were brought, and %d are in flight", flying, got.Recorders[1].Wishes, len(got.Flight))
		}
	}
}

// What becomes known within a round is noted by the first who knows it then.
func TestRecCalmNotesWithinARound(t *testing.T) {
	w := impl.RecNewWorld(3)
	for at := range w.Recorders {
		w.Recorders[at].Disk, w.Recorders[at].Safe = impl.RecDisk{Promise: 9}, impl.RecDisk{Promise: 9}
	}
	chosen := func(to int, index int, text string) impl.RecMessage {
		return impl.RecMessage{Kind: impl.RecChosen, From: 1, To: to, Ballot: 9, Index: index, Text: text}
	}
	// The third hears of it ahead of the first, so that what it knows is noted, though the first knows it otherwise then.
	w.Flight = []impl.RecMessage{chosen(3, 1, "c"), chosen(1, 1, "a"), chosen(2, 2, "no"), chosen(1, 2, "b"), chosen(3, 2, "d")}
	knows := func(texts ...string) recTurn {
		return func(r *impl.Recorder) {
			r.Heard, r.Disk.Known = 1, len(texts)
			for _, text := range texts {
				r.Disk.Slots = append(r.Disk.Slots, recSlot(9, text))
			}
		}
	}
	recCalms(t, "one round", w, 1, recWorldWith(w, recFlies(), recFixes(recFix(1, "c"), recFix(2, "b")), recOne(0, knows("a", "b")), recOne(1, knows()), recOne(2, knows("c", "d"))))
}

// Rounds are the events of which they consist, in ordinary worlds.
func TestRecCalmByEvents(t *testing.T) {
	for name, w := range map[string]impl.RecWorld{
		"a port": recPort(), "unnoted": recUnnoted(), "each sort": recOfEachRole(), "full": recWorldWith(recPort(), recFlies(recMany(600)...)),
		"one": impl.RecNewWorld(1), "two": impl.RecNewWorld(2), "three": impl.RecNewWorld(3), "four": impl.RecNewWorld(4), "five": impl.RecNewWorld(5),
	} {
		for at := range w.Recorders {
			w = impl.RecDo(w, impl.RecEvent{Kind: impl.RecEvWish, A: at, Text: fmt.Sprint("wish of ", at)})
		}
		for _, rounds := range []int{1, 2, 3, 8, 9, 10, 11, 12, 30} {
			recCalms(t, fmt.Sprintf("%s, %d rounds", name, rounds), w, rounds, recByEvents(w, rounds))
		}
	}
}

// Round by round, from a new world to a book: who does what, and when.
func TestRecCalmToABook(t *testing.T) {
	w := impl.RecDo(impl.RecNewWorld(3), impl.RecEvent{Kind: impl.RecEvWish, A: 1, Text: "x"})
	for rounds, want := range map[int]struct {
		role   string
		fixed  int
		known  [3]int
		wishes [3]int
	}{
		7:  {"quiet", 0, [3]int{}, [3]int{0, 1, 0}},
		8:  {"trying", 0, [3]int{}, [3]int{0, 1, 0}},
		9:  {"trying", 0, [3]int{}, [3]int{0, 1, 0}},
		10: {"leading", 0, [3]int{}, [3]int{0, 1, 0}},
		11: {"leading", 0, [3]int{}, [3]int{0, 1, 0}},
		12: {"leading", 0, [3]int{}, [3]int{1, 1, 0}},
		13: {"leading", 0, [3]int{}, [3]int{1, 1, 0}},
		14: {"leading", 1, [3]int{1, 0, 0}, [3]int{1, 1, 0}},
		15: {"leading", 1, [3]int{1, 1, 1}, [3]int{0, 1, 0}},
		16: {"leading", 1, [3]int{1, 1, 1}, [3]int{0, 0, 0}},
		99: {"leading", 1, [3]int{1, 1, 1}, [3]int{0, 0, 0}},
	} {
		got := impl.RecCalm(w, rounds)
		for at, r := range got.Recorders {
			if r.Disk.Known != want.known[at] || len(r.Wishes) != want.wishes[at] {
				t.Errorf("%d rounds: %d knows %d, and wishes for %q", rounds, at+1, r.Disk.Known, r.Wishes)
			}
		}
		if recRoleName(got.Recorders[0]) != want.role || len(got.Fixed) != want.fixed {
			t.Errorf("%d rounds: the first is %s, and %v is fixed", rounds, recRoleName(got.Recorders[0]), got.Fixed)
		}
	}
}
