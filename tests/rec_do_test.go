package tests

import (
	"fmt"
	"math"
	"slices"
	"testing"

	"loop.example/wharfdesk/impl"
)

// recBecomes says what a call makes of a world, in new memory, the world that is handed in staying as it is; an ok one stays ok.
func recBecomes(t *testing.T, what string, w impl.RecWorld, does func(impl.RecWorld) impl.RecWorld, want impl.RecWorld) impl.RecWorld {
	t.Helper()
	w = spread(w)
	before := whole(w)
	got := does(w)
	if !same(got, want) {
		t.Errorf("%s:\n%+v, not\n%+v", what, got, want)
	}
	if ok := recWorldIsOk(w); impl.RecWorldOk(got) != ok || !ok && !same(got, impl.RecWorld{}) {
		t.Errorf("%s: the world behind it: %+v", what, got)
	}
	newMemory(t, what, got, w)
	if !same(whole(w), before) {
		t.Errorf("%s: the world was changed", what)
	}
	return got
}

// recHappens says that an event turns a world so, and not otherwise.
func recHappens(t *testing.T, what string, w impl.RecWorld, e impl.RecEvent, turns ...recWorldTurn) impl.RecWorld {
	t.Helper()
	does := func(w impl.RecWorld) impl.RecWorld { return impl.RecDo(w, e) }
	return recBecomes(t, what, w, does, recWorldWith(w, turns...))
}

func recEvent(kind, a int) impl.RecEvent {
	return impl.RecEvent{Kind: kind, A: a}
}

// recUnnoted is recPort, with a place of which there is something to note, by what most have, and one by what somebody knows. It is ok.
func recUnnoted() impl.RecWorld {
	disk := impl.RecDisk{Promise: 4, Known: 2, Slots: recSlots(recSlot(4, "a"), recSlot(4, "k"))}
	return recWorldWith(recPort(), recFixes(), recOne(2, func(r *impl.Recorder) { r.Safe, r.Disk = disk, disk }))
}

// recNoted is what is noted in recUnnoted.
func recNoted(w *impl.RecWorld) {
	w.Fixed = []impl.RecFix{{Index: 1, Text: "a"}, {Index: 2, Text: "k"}}
}

var recNoPlaces = []int{math.MinInt, -1000, -2, -1}

func TestRecDoOtherKinds(t *testing.T) {
	for _, kind := range []int{math.MinInt, -100, -2, -1, 0, 8, 9, 10, 100, 1000000, math.MaxInt} {
		for _, a := range []int{-1, 0, 1, 2, 3, 4, 5, math.MaxInt} {
			for _, w := range []impl.RecWorld{recPort(), recUnnoted(), impl.RecNewWorld(1)} {
				recHappens(t, fmt.Sprintf("Kind %d, A %d", kind, a), w, impl.RecEvent{Kind: kind, A: a, Text: "t"})
			}
		}
	}
}

// A message, or a recorder, that is not there: nothing happens, and nothing is noted.
func TestRecDoNotThere(t *testing.T) {
	for kind := impl.RecEvBring; kind <= impl.RecEvWish; kind++ {
		for name, w := range map[string]impl.RecWorld{"a port": recPort(), "unnoted": recUnnoted(), "full": recWorldWith(recPort(), recFlies(recMany(600)...)), "new": impl.RecNewWorld(5), "one alone": impl.RecNewWorld(1)} {
			last := len(w.Recorders)
			if kind <= impl.RecEvLose {
				last = len(w.Flight)
			}
			for _, a := range append(slices.Clone(recNoPlaces), last, last+1, last+1000, 1000000, math.MaxInt) {
				recHappens(t, fmt.Sprintf("%s, Kind %d, A %d", name, kind, a), w, impl.RecEvent{Kind: kind, A: a, Text: "t"})
			}
		}
	}
}

func TestRecDoNotOk(t *testing.T) {
	for what, w := range recNotOk() {
		for kind := -1; kind <= 9; kind++ {
			for _, a := range []int{-1, 0, 1, 5, 700} {
				e := impl.RecEvent{Kind: kind, A: a, Text: "t"}
				does := func(w impl.RecWorld) impl.RecWorld { return impl.RecDo(w, e) }
				recBecomes(t, fmt.Sprintf("%s, %+v", what, e), w, does, impl.RecWorld{})
			}
		}
	}
}

// Once without any help: recPort, ticked.
func TestRecDoTick(t *testing.T) {
	want := recPort()
	leader, trier := &want.Recorders[0], &want.Recorders[1]
	leader.Safe.Slots = append(leader.Safe.Slots, recSlot(7, "c"))
	leader.Disk.Slots = append(leader.Disk.Slots, recSlot(7, "w"))
	leader.Held, leader.Heard = nil, 4
	leader.Acks = []impl.RecAck{{Index: 2, From: []int{1}}, {Index: 3, From: []int{1}}}
	trier.Safe = trier.Disk
	trier.Held, trier.Heard = nil, 2
	want.Flight = append(want.Flight,
		impl.RecMessage{Kind: 6, From: 1, To: 3, Ballot: 7, Index: 1, Text: "a"},
		impl.RecMessage{Kind: 5, From: 1, To: 2, Ballot: 7, Known: 1}, impl.RecMessage{Kind: 5, From: 1, To: 3, Ballot: 7, Known: 1},
		impl.RecMessage{Kind: 3, From: 1, To: 2, Ballot: 7, Index: 2, Text: "b"}, impl.RecMessage{Kind: 3, From: 1, To: 3, Ballot: 7, Index: 2, Text: "b"},
		impl.RecMessage{Kind: 3, From: 1, To: 2, Ballot: 7, Index: 3, Text: "c"}, impl.RecMessage{Kind: 3, From: 1, To: 3, Ballot: 7, Index: 3, Text: "c"},
		impl.RecMessage{Kind: 3, From: 1, To: 2, Ballot: 7, Index: 4, Text: "w"}, impl.RecMessage{Kind: 3, From: 1, To: 3, Ballot: 7, Index: 4, Text: "w"},
		impl.RecMessage{Kind: 1, From: 2, To: 1, Ballot: 8}, impl.RecMessage{Kind: 1, From: 2, To: 3, Ballot: 8},
	)
	becomes := func(w *impl.RecWorld) { *w = spread(want) }
	// Neither A nor Text has to do with it.
	for _, a := range []int{0, 1, 2, 3, 4, 5, 600, -1, math.MinInt, math.MaxInt} {
		recHappens(t, fmt.Sprint("A ", a), recPort(), impl.RecEvent{Kind: impl.RecEvTick, A: a, Text: "t"}, becomes)
	}
	recHappens(t, "with something to note", recUnnoted(), recEvent(impl.RecEvTick, 0), becomes, recOne(2, func(r *impl.Recorder) { *r = recUnnoted().Recorders[2] }), recNoted)
}

// Each recorder ticks once, by itself, in a world of every size; what they send is in flight in their order.
func TestRecDoTickInOrder(t *testing.T) {
	for of := 1; of <= 5; of++ {
		w := impl.RecNewWorld(of)
		w.Flight = []impl.RecMessage{{Kind: impl.RecBeat, From: of, To: 1}}
		want := spread(w)
		for at := range w.Recorders {
			for i := range 3 - at%2 {
				w.Recorders[at].Held = append(w.Recorders[at].Held, impl.RecMessage{Kind: impl.RecWished, From: at + 1, To: 1, Text: fmt.Sprint(at, i)})
			}
			want.Flight = append(want.Flight, w.Recorders[at].Held...)
			want.Recorders[at].Heard = 1
		}
		recHappens(t, fmt.Sprint("of ", of), w, recEvent(impl.RecEvTick, 0), func(w *impl.RecWorld) { *w = want })
	}
}

// recHolders is a world of three with ten messages held: three, four and three.
func recHolders() impl.RecWorld {
	w := impl.RecNewWorld(3)
	for at, n := range []int{3, 4, 3} {
		for i := range n {
			w.Recorders[at].Held = append(w.Recorders[at].Held, impl.RecMessage{Kind: impl.RecWished, From: at + 1, To: 2, Text: fmt.Sprintf("%d-%d", at+1, i)})
		}
	}
	return w
}

// A flight that becomes full at each of the places: what stands ahead is in it, and what comes behind is not; all that was held is gone.
func TestRecDoTickRoom(t *testing.T) {
	sent := slices.Concat(recHolders().Recorders[0].Held, recHolders().Recorders[1].Held, recHolders().Recorders[2].Held)
	for flying := 585; flying <= 600; flying++ {
		w := recHolders()
		w.Flight = recMany(flying)
		recHappens(t, fmt.Sprint(flying, " in flight"), w, recEvent(impl.RecEvTick, 0), func(w *impl.RecWorld) {
			w.Flight = append(recMany(flying), sent[:min(10, 600-flying)]...)
			w.Recorders = recRow(3, 3)
			for at := range w.Recorders {
				w.Recorders[at].Heard = 1
			}
		})
	}
}

// The most that may be sent at once: of five, all that each may hold, and what one leads with.
func TestRecDoTickMost(t *testing.T) {
	w := impl.RecNewWorld(5)
	var sent []impl.RecMessage
	for at := range w.Recorders {
		recFullTo(400)(&w.Recorders[at])
		sent = append(sent, w.Recorders[at].Held...)
	}
	w.Recorders[4] = recWith(w.Recorders[4], func(r *impl.Recorder) {
		r.Lead, r.Ballot, r.Disk = true, 5, impl.RecDisk{Promise: 5, Slots: recNumbered(120, "s", func(int) int { return 5 })}
	})
	for _, flying := range []int{0, 1, 199, 200, 201, 599, 600} {
		w.Flight = recMany(flying)
		got := recHappens(t, fmt.Sprint(flying, " in flight"), w, recEvent(impl.RecEvTick, 0), func(w *impl.RecWorld) {
			w.Flight = append(recMany(flying), sent[:600-flying]...)
			for at := range w.Recorders {
				w.Recorders[at], _ = impl.RecTick(w.Recorders[at])
			}
		})
		if len(got.Flight) != 600 || len(got.Recorders[4].Acks) != 120 {
			t.Errorf("%d in flight: %d are, and %d acks", flying, len(got.Flight), len(got.Recorders[4].Acks))
		}
	}
}

// recPlan is two disks of one that is Up: the Safe one, and the one that a tick makes safe.
type recPlan struct{ safe, disk impl.RecSlot }

// What is fixed is noted once, behind all ticks: what most have between two of them alone is not noted.
func TestRecDoTickNotesOnce(t *testing.T) {
	a, b, c := recSlot(1, "a"), recSlot(2, "b"), recSlot(3, "c")
	for what, x := range map[string]struct {
		plans []recPlan
		want  []impl.RecFix
	}{
		"b between":                  {[]recPlan{{a, b}, {a, c}, {b, c}}, []impl.RecFix{{Index: 1, Text: "c"}}},
		"b between, and then nobody": {[]recPlan{{a, b}, {b, a}, {c, c}}, nil},
		"a before":                   {[]recPlan{{a, b}, {a, a}, {c, c}}, nil},
		"b at the last":              {[]recPlan{{a, b}, {a, c}, {a, b}}, []impl.RecFix{{Index: 1, Text: "b"}}},
		"b by all of them":           {[]recPlan{{a, b}, {b, b}, {c, b}}, []impl.RecFix{{Index: 1, Text: "b"}}},
		"a all the time":             {[]recPlan{{a, a}, {c, b}, {a, a}}, []impl.RecFix{{Index: 1, Text: "a"}}},
	} {
		w := impl.RecNewWorld(3)
		for at, plan := range x.plans {
			w.Recorders[at].Safe = impl.RecDisk{Promise: 9, Slots: recSlots(plan.safe)}
			w.Recorders[at].Disk = impl.RecDisk{Promise: 9, Slots: recSlots(plan.disk)}
		}
		recHappens(t, what, w, recEvent(impl.RecEvTick, 0), func(w *impl.RecWorld) {
			for at := range w.Recorders {
				recBegins(&w.Recorders[at])
			}
			w.Fixed = x.want
		})
	}
}

// Each message of recPort brought, once without any help.
func TestRecDoBring(t *testing.T) {
	for a, turns := range [][]recWorldTurn{
		// The one who tries has promised more than this beat's ballot.
		{recOne(1, recRefuses(1))},
		// More than half have promised, so it leads with the best of what they took.
		{recOne(1, func(r *impl.Recorder) {
			recComesToLead(r)
			r.Disk.Slots = recSlots(recSlot(4, "a"), recSlot(8, "e"), recSlot(8, "g"))
		})},
		// The third is not Up.
		nil,
		{recOne(0, recWishes("c", "w", "x"))},
		// More than half have taken the second place, which is known then.
		{recOne(0, recKnows(2), func(r *impl.Recorder) { r.Acks = []impl.RecAck{{Index: 2, From: []int{1, 3}}} }), recFixes(impl.RecFix{Index: 1, Text: "a"}, impl.RecFix{Index: 2, Text: "b"})},
	} {
		turns = append(turns, func(w *impl.RecWorld) { w.Flight = slices.Delete(w.Flight, a, a+1) })
		recHappens(t, fmt.Sprint("A ", a), recPort(), recEvent(impl.RecEvBring, a), turns...)
		// What is fixed is noted behind each, also if the message has nothing to do with it.
		recHappens(t, fmt.Sprint("with something to note, A ", a), recUnnoted(), recEvent(impl.RecEvBring, a), append(turns, func(w *impl.RecWorld) {
			recNoted(w)
			if a == 4 {
				w.Fixed[1].Text = "b"
			}
		})...)
	}
}

// The message is taken out first: what its recorder holds by it is not in flight, and the others keep their order.
func TestRecDoBringTakesOut(t *testing.T) {
	for _, n := range []int{1, 2, 3, 599, 600} {
		for _, a := range []int{0, n / 2, n - 1} {
			w := impl.RecNewWorld(2)
			w.Flight = recMany(n)
			w.Flight[a] = impl.RecMessage{Kind: impl.RecPrepare, From: 2, To: 1, Ballot: 2}
			recHappens(t, fmt.Sprintf("%d of %d", a, n), w, impl.RecEvent{Kind: impl.RecEvBring, A: a, Text: "t"}, func(w *impl.RecWorld) {
				w.Flight = append(recMany(n)[:a], recMany(n)[a+1:]...)
				w.Recorders[0].Disk.Promise = 2
				recHolds(impl.RecMessage{Kind: impl.RecPromised, To: 2, Ballot: 2})(&w.Recorders[0])
			})
		}
	}
}

// To each recorder of each world: it is taken by that one alone, and only if it is Up.
func TestRecDoBringTo(t *testing.T) {
	for of := 1; of <= 5; of++ {
		for to := 1; to <= of; to++ {
			w := impl.RecNewWorld(of)
			w.Flight = []impl.RecMessage{{Kind: impl.RecWished, From: of, To: to, Text: "t"}}
			recHappens(t, fmt.Sprintf("to %d of %d", to, of), w, recEvent(impl.RecEvBring, 0), recFlies(), recOne(to-1, recWishes("t")))
			w = recWorldWith(w, recOne(to-1, func(r *impl.Recorder) { r.Up = false }))
			recHappens(t, fmt.Sprintf("to %d of %d, not Up", to, of), w, recEvent(impl.RecEvBring, 0), recFlies())
		}
	}
}

func TestRecDoDouble(t *testing.T) {
	for a, m := range recPort().Flight {
		got := recHappens(t, fmt.Sprint("A ", a), recPort(), impl.RecEvent{Kind: impl.RecEvDouble, A: a, Text: "t"}, func(w *impl.RecWorld) { w.Flight = append(w.Flight, m) })
		if len(m.Slots) > 0 && &got.Flight[a].Slots[0] == &got.Flight[5].Slots[0] {
			t.Error("the two share their slots")
		}
		recHappens(t, fmt.Sprint("with something to note, A ", a), recUnnoted(), recEvent(impl.RecEvDouble, a), func(w *impl.RecWorld) { w.Flight = append(w.Flight, m) })
	}
	for _, n := range []int{1, 2, 598, 599, 600} {
		for _, a := range []int{0, n / 2, n - 1} {
			w := recWorldWith(recPort(), recFlies(recMany(n)...))
			recHappens(t, fmt.Sprintf("%d of %d", a, n), w, recEvent(impl.RecEvDouble, a), func(w *impl.RecWorld) {
				if n < 600 {
					w.Flight = append(recMany(n), recMany(n)[a])
				}
			})
		}
	}
}

func TestRecDoLose(t *testing.T) {
	for a := range recPort().Flight {
		gone := func(w *impl.RecWorld) { w.Flight = slices.Delete(w.Flight, a, a+1) }
		recHappens(t, fmt.Sprint("A ", a), recPort(), impl.RecEvent{Kind: impl.RecEvLose, A: a, Text: "t"}, gone)
		recHappens(t, fmt.Sprint("with something to note, A ", a), recUnnoted(), recEvent(impl.RecEvLose, a), gone)
	}
	for _, n := range []int{1, 2, 599, 600} {
		for _, a := range []int{0, n / 2, n - 1} {
			w := recWorldWith(recPort(), recFlies(recMany(n)...))
			recHappens(t, fmt.Sprintf("%d of %d", a, n), w, recEvent(impl.RecEvLose, a), func(w *impl.RecWorld) {
				w.Flight = append(recMany(n)[:a], recMany(n)[a+1:]...)
			})
		}
	}
}

// Of each sort of recorders: one that is Up, and one that is not, whose Disk may be ahead of what is Safe.
func TestRecDoFallAndRise(t *testing.T) {
	falls := func(r *impl.Recorder) { *r = impl.Recorder{Number: r.Number, Of: r.Of, Safe: r.Safe, Disk: r.Safe} }
	rises := func(r *impl.Recorder) { r.Up = true }
	ahead := recWorldWith(recOfEachRole(), recOne(1, func(r *impl.Recorder) { r.Disk.Promise = 9 }))
	for name, w := range map[string]impl.RecWorld{"each sort": recOfEachRole(), "a Disk ahead": ahead, "a port": recPort(), "unnoted": recUnnoted(), "new": impl.RecNewWorld(5), "one alone": impl.RecNewWorld(1)} {
		for a := range w.Recorders {
			recHappens(t, fmt.Sprintf("%s, %d falls", name, a), w, impl.RecEvent{Kind: impl.RecEvFall, A: a, Text: "t"}, recOne(a, falls))
			recHappens(t, fmt.Sprintf("%s, %d rises", name, a), w, impl.RecEvent{Kind: impl.RecEvRise, A: a, Text: "t"}, recOne(a, rises))
			fallen := impl.RecDo(w, recEvent(impl.RecEvFall, a))
			recHappens(t, fmt.Sprintf("%s, %d falls again", name, a), fallen, recEvent(impl.RecEvFall, a))
			recHappens(t, fmt.Sprintf("%s, %d falls and rises", name, a), fallen, recEvent(impl.RecEvRise, a), recOne(a, rises))
		}
	}
}

// Each text that RecWish takes, and each that it refuses. The first of recPort knows a, has c and w among its Wishes, and b in a slot that is not known.
func TestRecDoWish(t *testing.T) {
	for text, taken := range map[string]bool{
		"t": true, "b": true, "y": true, "\xff": true, " ": true, letters(159): true, letters(160): true,
		"": false, "a": false, "c": false, "w": false, letters(161): false, letters(5000): false,
	} {
		for name, w := range map[string]impl.RecWorld{"a port": recPort(), "unnoted": recUnnoted()} {
			var turns []recWorldTurn
			if taken {
				turns = append(turns, recOne(0, recWishes("c", "w", text)))
			}
			recHappens(t, fmt.Sprintf("%s, %.9q", name, text), w, impl.RecEvent{Kind: impl.RecEvWish, A: 0, Text: text}, turns...)
			recHappens(t, fmt.Sprintf("%s, %.9q to one that is not Up", name, text), w, impl.RecEvent{Kind: impl.RecEvWish, A: 2, Text: text})
		}
	}
	for n := range 21 {
		w := recWorldWith(recPort(), recOne(1, recWishes(recManyWishes(n)...)))
		var turns []recWorldTurn
		if n < 20 {
			turns = append(turns, recOne(1, recWishes(append(recManyWishes(n), "t")...)))
		}
		recHappens(t, fmt.Sprint(n, " Wishes"), w, impl.RecEvent{Kind: impl.RecEvWish, A: 1, Text: "t"}, turns...)
	}
	for of := 1; of <= 5; of++ {
		for a := range of {
			recHappens(t, fmt.Sprintf("%d of %d", a, of), impl.RecNewWorld(of), impl.RecEvent{Kind: impl.RecEvWish, A: a, Text: "t"}, recOne(a, recWishes("t")))
		}
	}
}
