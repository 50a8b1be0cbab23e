package tests

import (
	"fmt"
	"math"
	"slices"
	"testing"

	"loop.example/wharfdesk/impl"
)

// stewHas is of one service, web, of Image 5, that is to have so many copies, and has these; their Service, Number and Version are put in, and the Berth of one that names none and has one.
func stewHas(want, down, over int, copies ...impl.StewCopy) impl.StewBook {
	b := impl.StewBook{
		Now:      60,
		Services: []impl.StewService{{Name: "web", Version: 17, Image: 5, Want: want, Down: down, Over: over, Next: 2*len(copies) + 5}},
		Berths:   []impl.StewBerth{{Name: "dry", Drain: true}, {Name: "wet"}},
	}
	for i, c := range copies {
		c.Service, c.Number, c.Version = "web", 2*i+2, 20+i
		if c.Berth == "" && c.State != impl.StewWaiting {
			c.Berth = "wet"
		}
		b.Copies = append(b.Copies, c)
	}
	return b
}

// Copies of stewHas, by what a steward may see of them.
func stewGood() impl.StewCopy    { return stewLive(5, impl.StewReady) }
func stewWaits() impl.StewCopy   { return stewLive(5, impl.StewWaiting) }
func stewStarts() impl.StewCopy  { return stewLive(5, impl.StewStarting) }
func stewBroken() impl.StewCopy  { return stewLive(5, impl.StewFailed) }
func stewOldGood() impl.StewCopy { return stewLive(4, impl.StewReady) }

// stewLeaves puts a copy on a berth that is to be drained.
func stewLeaves(c impl.StewCopy) impl.StewCopy {
	c.Berth = "dry"
	return c
}

func stewGone(b impl.StewBook) impl.StewBook {
	b.Services[0].Gone = true
	return b
}

func stewCreates(n int) []impl.StewAct { return []impl.StewAct{{Create: n}} }

func stewEndsThese(numbers ...int) []impl.StewAct {
	return []impl.StewAct{{Ends: stewEnds(numbers...)}}
}

func stewScales(want, cool int) []impl.StewAct {
	return []impl.StewAct{{Scale: true, Want: want, Cool: cool}}
}

// stewAsksFor says what a steward asks for, that the view stays as it is and is valid (so that asking for nothing is no accident), that the answer is memory of its own, and, of promise 15, that each act is done. Acts that name no service are of web; how things were seen is put in.
func stewAsksFor(t *testing.T, what string, kind int, b impl.StewBook, acts []impl.StewAct) {
	t.Helper()
	b = spread(b)
	before := whole(b)
	if !impl.StewValid(b) {
		t.Errorf("%s: the view is not valid", what)
	}
	var want []impl.StewAct
	for _, a := range acts {
		if a.Service == "" {
			a.Service = "web"
		}
		want = append(want, stewSeenIn(b, a.Service, a))
	}
	got := impl.StewAsk(kind, b)
	if !same(got, want) {
		t.Errorf("%s: %d asks for %+v, not for %+v", what, kind, got, want)
	}
	if !same(whole(b), before) {
		t.Errorf("%s: the view was changed", what)
	}
	newMemory(t, what, got, b)
	for _, a := range got {
		stewIsDone(t, what, b, a)
	}
}

// stewIsDone is promise 15, of one act.
func stewIsDone(t *testing.T, what string, view impl.StewBook, a impl.StewAct) {
	t.Helper()
	want := 0
	if (stewReading{view, a}).tooMuch() {
		want = 7
	}
	if _, code := impl.StewApply(view, a); code != want {
		t.Errorf("%s: code %d of %+v", what, code, a)
	}
}

type stewAskCase struct {
	what string
	book impl.StewBook
	acts []impl.StewAct
}

func stewCheckAsks(t *testing.T, kind int, cases []stewAskCase) {
	t.Helper()
	for _, c := range cases {
		stewAsksFor(t, c.what, kind, c.book, c.acts)
	}
}

// stewBusy is the fleet, and three services more, so that each steward has something to ask for.
func stewBusy() impl.StewBook {
	b := stewFleet()
	b.Services = append(b.Services,
		impl.StewService{Name: "x-few", Version: 33, Image: 4, Want: 5, Over: 2, Next: 9},
		impl.StewService{Name: "x-gone", Version: 34, Gone: true, Image: 4, Want: 2, Over: 2, Next: 9},
		impl.StewService{Name: "x-left", Version: 35, Image: 4, Want: 1, Down: 1, Next: 9},
	)
	b.Copies = append(b.Copies,
		impl.StewCopy{Service: "x-few", Number: 3, Version: 8, Image: 4, State: impl.StewFailed, Berth: "b3"},
		impl.StewCopy{Service: "x-few", Number: 7, Version: 7, Image: 3, State: impl.StewReady, Berth: "b2"},
		impl.StewCopy{Service: "x-gone", Number: 1, Version: 3, Image: 4, State: impl.StewReady, Berth: "b3"},
		impl.StewCopy{Service: "x-gone", Number: 6, Version: 4, Image: 4, State: impl.StewReady, Ending: true, Berth: "b3"},
		impl.StewCopy{Service: "x-gone", Number: 8, Version: 5, Image: 3, State: impl.StewWaiting},
		impl.StewCopy{Service: "x-left", Number: 4, Version: 6, Image: 4, State: impl.StewReady, Berth: "b2"},
	)
	return b
}

// What each steward asks for in the busy fleet.
func stewBusyAsks() map[int][]impl.StewAct {
	return map[int][]impl.StewAct{
		impl.StewCounter: {{Service: "x-few", Create: 3}},
		impl.StewWaver:   {{Service: "api", Ends: stewEnds(3)}, {Service: "web", Create: 1}},
		impl.StewMender:  {{Service: "web", Ends: stewEnds(9)}, {Service: "x-few", Ends: stewEnds(3)}},
		impl.StewScaler:  {{Service: "api", Scale: true, Want: 2}},
		impl.StewSweeper: {{Service: "x-gone", Ends: stewEnds(1, 8)}},
		impl.StewDrainer: {{Service: "x-left", Ends: stewEnds(4)}},
	}
}

func TestStewAskBusy(t *testing.T) {
	for kind, acts := range stewBusyAsks() {
		stewAsksFor(t, "the busy fleet", kind, stewBusy(), acts)
	}
	// How a thing was seen, once without the help of stewSeenIn.
	want := []impl.StewAct{
		{Service: "web", Seen: 9, Ends: []impl.StewEnd{{Number: 9, Seen: 30}}},
		{Service: "x-few", Seen: 33, Ends: []impl.StewEnd{{Number: 3, Seen: 8}}},
	}
	if got := impl.StewAsk(impl.StewMender, stewBusy()); !same(got, want) {
		t.Errorf("%+v", got)
	}
}

func TestStewAskNotValid(t *testing.T) {
	for what, turn := range stewSpoilt() {
		b := stewBusy()
		turn(&b)
		b = spread(b)
		before := whole(b)
		if impl.StewValid(b) {
			t.Errorf("%s: valid", what)
		}
		for kind := -1; kind <= 8; kind++ {
			if got := impl.StewAsk(kind, b); len(got) != 0 {
				t.Errorf("%s: %d asks for %+v", what, kind, got)
			}
		}
		if !same(whole(b), before) {
			t.Errorf("%s: the view was changed", what)
		}
	}
}

func TestStewAskOtherKinds(t *testing.T) {
	for _, kind := range []int{0, 7, -1, 8, -6, 100, math.MinInt, math.MaxInt} {
		stewAsksFor(t, "another kind", kind, stewBusy(), nil)
	}
	for kind := -1; kind <= 8; kind++ {
		stewAsksFor(t, "nothing at all", kind, impl.StewBook{}, nil)
		stewAsksFor(t, "no services", kind, impl.StewBook{Now: 5, Berths: stewBusy().Berths}, nil)
	}
}

// stewTogether is of several books like stewHas, their services renamed in order, each with Versions of its own.
func stewTogether(books []impl.StewBook) impl.StewBook {
	all := impl.StewBook{Now: 999, Berths: stewHas(0, 0, 1).Berths}
	for i, b := range books {
		s := b.Services[0]
		s.Name, s.Version = fmt.Sprintf("s%d", i), 100+i
		all.Services = append(all.Services, s)
		for _, c := range b.Copies {
			c.Service, c.Version = s.Name, c.Version+40*i
			all.Copies = append(all.Copies, c)
		}
	}
	return all
}

// stewEager tells of each kind a service that it asks something for, and what.
func stewEager() map[int]stewAskCase {
	follows := stewFollows(10, 45, 1, 5, 2, 0)
	return map[int]stewAskCase{
		impl.StewCounter: {"too few", stewHas(3, 1, 1, stewGood()), stewCreates(2)},
		impl.StewWaver:   {"an old one", stewHas(2, 1, 0, stewOldGood(), stewGood()), stewEndsThese(2)},
		impl.StewMender:  {"two that failed", stewHas(3, 1, 1, stewBroken(), stewGood(), stewBroken()), stewEndsThese(2, 6)},
		impl.StewScaler:  {"too much load", follows, stewScales(5, 0)},
		impl.StewSweeper: {"gone", stewGone(stewHas(1, 1, 1, stewGood(), stewWaits())), stewEndsThese(2, 4)},
		impl.StewDrainer: {"one that is to leave", stewHas(2, 1, 0, stewGood(), stewLeaves(stewGood())), stewEndsThese(4)},
	}
}

// Each mix of services that a steward asks something for, and of such as are as they should be.
func TestStewAskServices(t *testing.T) {
	quiet := stewHas(2, 1, 1, stewGood(), stewGood(), stewEnding(4, impl.StewFailed))
	for kind, eager := range stewEager() {
		for mask := range 1 << impl.StewMaxServices {
			var books []impl.StewBook
			var acts []impl.StewAct
			for i := range impl.StewMaxServices {
				if mask>>i&1 == 0 {
					books = append(books, quiet)
					continue
				}
				books = append(books, eager.book)
				act := eager.acts[0]
				act.Service = fmt.Sprintf("s%d", i)
				acts = append(acts, act)
			}
			stewAsksFor(t, fmt.Sprintf("services %08b", mask), kind, stewTogether(books), acts)
		}
	}
}

// Copies of one service say nothing about another, however their names begin.
func TestStewAskOtherServices(t *testing.T) {
	for kind, eager := range stewEager() {
		b := stewTogether([]impl.StewBook{eager.book, stewHas(0, 1, 1), eager.book})
		b.Services[1].Name = "s00"
		b.Services[2].Name = "s1"
		b.Services[0].Name = "s"
		for i := range b.Copies {
			b.Copies[i].Service = map[string]string{"s0": "s", "s2": "s1"}[b.Copies[i].Service]
		}
		first, last := eager.acts[0], eager.acts[0]
		first.Service, last.Service = "s", "s1"
		stewAsksFor(t, "one without copies between", kind, b, []impl.StewAct{first, last})
	}
}

// stewEitherEnds has one copy more than there may be, so that the counter asks for the first to end of them.
func stewEitherEnds(copies ...impl.StewCopy) impl.StewBook {
	return stewHas(len(copies)-1, 1, 0, copies...)
}

func TestStewFirstToEndRules(t *testing.T) {
	higher := stewLive(6, impl.StewReady)
	for _, c := range []struct {
		what          string
		ahead, behind impl.StewCopy
	}{
		{"one that waits ahead of a ready one", stewWaits(), stewGood()},
		{"one that starts ahead of a ready one", stewStarts(), stewGood()},
		{"one that failed ahead of a ready one", stewBroken(), stewGood()},
		{"an old one ahead of a new one", stewOldGood(), stewGood()},
		{"one of a higher image ahead of a new one", higher, stewGood()},
		{"an old one that waits ahead of a new one", stewLive(4, impl.StewWaiting), stewWaits()},
		{"an old one that failed ahead of one that waits", stewLive(4, impl.StewFailed), stewWaits()},
		{"one that is to leave ahead of one that stays", stewLeaves(stewGood()), stewGood()},
		{"one that starts and is to leave ahead of one that stays", stewLeaves(stewStarts()), stewStarts()},
		{"one that failed and is to leave ahead of one that waits", stewLeaves(stewBroken()), stewWaits()},
		{"an old one that is to leave ahead of one that stays", stewLeaves(stewOldGood()), stewOldGood()},
		{"an old one that is to leave ahead of one that is higher", stewLeaves(stewOldGood()), higher},

		{"not ready ahead of old", stewStarts(), stewOldGood()},
		{"waiting ahead of old", stewWaits(), stewOldGood()},
		{"not ready ahead of to leave", stewStarts(), stewLeaves(stewGood())},
		{"waiting ahead of to leave", stewWaits(), stewLeaves(stewGood())},
		{"not ready ahead of old and to leave", stewBroken(), stewLeaves(stewOldGood())},
		{"old ahead of to leave", stewOldGood(), stewLeaves(stewGood())},
		{"old ahead of to leave, both not ready", stewLive(4, impl.StewStarting), stewLeaves(stewStarts())},
		{"old and waiting ahead of to leave", stewLive(4, impl.StewWaiting), stewLeaves(stewBroken())},
	} {
		stewAsksFor(t, c.what, impl.StewCounter, stewEitherEnds(c.ahead, c.behind), stewEndsThese(2))
		stewAsksFor(t, c.what+", of a greater Number", impl.StewCounter, stewEitherEnds(c.behind, c.ahead), stewEndsThese(4))
		stewAsksFor(t, c.what+", between others", impl.StewCounter, stewEitherEnds(c.behind, c.ahead, c.behind), stewEndsThese(4))
	}
	for _, c := range []struct {
		what string
		a, b impl.StewCopy
	}{
		{"alike", stewGood(), stewGood()},
		{"old alike", stewOldGood(), stewOldGood()},
		{"one old, one of a higher image", stewOldGood(), higher},
		{"to leave alike", stewLeaves(stewGood()), stewLeaves(stewGood())},
		{"one waits, one starts", stewWaits(), stewStarts()},
		{"one failed, one waits", stewBroken(), stewWaits()},
		{"one failed, one starts", stewLeaves(stewBroken()), stewLeaves(stewStarts())},
	} {
		stewAsksFor(t, c.what, impl.StewCounter, stewEitherEnds(c.a, c.b), stewEndsThese(4))
		stewAsksFor(t, c.what+", turned", impl.StewCounter, stewEitherEnds(c.b, c.a), stewEndsThese(4))
		stewAsksFor(t, c.what+", of three", impl.StewCounter, stewEitherEnds(c.b, c.a, c.a), stewEndsThese(6))
	}
}

// stewSorts are all copies of stewHas that differ in what decides who goes first, and some that do not.
func stewSorts() []impl.StewCopy {
	var list []impl.StewCopy
	for state := impl.StewWaiting; state <= impl.StewFailed; state++ {
		for image := 4; image <= 6; image++ {
			list = append(list, stewLive(image, state))
			if state != impl.StewWaiting {
				list = append(list, stewLeaves(stewLive(image, state)))
			}
		}
	}
	return list
}

// Three of all sorts, and two; the one that the document calls first is asked for.
func TestStewFirstToEndAll(t *testing.T) {
	check := func(copies ...impl.StewCopy) {
		b := stewEitherEnds(copies...)
		first := stewFirstOf(b, b.Services[0], b.Copies)
		stewAsksFor(t, fmt.Sprintf("%+v", copies), impl.StewCounter, b, stewEndsThese(first.Number))
	}
	for _, x := range stewSorts() {
		for _, y := range stewSorts() {
			check(x, y)
			for _, z := range stewSorts() {
				check(x, y, z)
			}
		}
	}
}

func TestStewCounter(t *testing.T) {
	old, leaves := stewOldGood(), stewLeaves(stewGood())
	good := func(n int, more ...impl.StewCopy) []impl.StewCopy { return append(stewSomeOf(n, stewGood()), more...) }
	stewCheckAsks(t, impl.StewCounter, []stewAskCase{
		{"none of three", stewHas(3, 1, 1), stewCreates(3)},
		{"one of three", stewHas(3, 1, 1, good(1)...), stewCreates(2)},
		{"two of three", stewHas(3, 1, 1, good(2)...), stewCreates(1)},
		{"none of ten", stewHas(10, 1, 0), stewCreates(10)},
		{"one that failed counts", stewHas(2, 1, 1, stewBroken()), stewCreates(1)},
		{"one that waits counts", stewHas(2, 1, 1, stewWaits()), stewCreates(1)},
		{"one that is old counts", stewHas(2, 1, 1, old), stewCreates(1)},
		{"one that is to leave counts", stewHas(2, 1, 1, leaves), stewCreates(1)},
		{"one that is Ending does not", stewHas(2, 1, 1, stewGood(), stewEnding(5, 3)), stewCreates(1)},
		{"all are Ending", stewHas(2, 1, 1, stewEnding(5, 3), stewEnding(5, 1), stewEnding(5, 4)), stewCreates(2)},

		{"three of three", stewHas(3, 1, 1, good(3)...), nil},
		{"three of three, none of them ready", stewHas(3, 1, 1, stewWaits(), stewStarts(), stewBroken()), nil},
		{"three of three, one old, one to leave", stewHas(3, 1, 1, good(1, old, leaves)...), nil},
		{"three of three, and many that are Ending", stewHas(3, 1, 0, good(3, stewSomeOf(9, stewEnding(4, 3))...)...), nil},
		{"none of none", stewHas(0, 1, 1), nil},
		{"ten of ten", stewHas(10, 1, 1, good(10)...), nil},

		{"four of three", stewHas(3, 1, 1, good(4)...), stewEndsThese(8)},
		{"four of three, none may be down", stewHas(3, 0, 1, good(4)...), stewEndsThese(8)},
		{"four of three, none may be over", stewHas(3, 1, 0, good(4)...), stewEndsThese(8)},
		{"seven of three: one at a time", stewHas(3, 1, 10, good(7)...), stewEndsThese(14)},
		{"four of three, one of which starts", stewHas(3, 1, 1, good(1, stewStarts(), stewGood(), stewGood())...), stewEndsThese(4)},
		{"four of three, none of them ready", stewHas(3, 0, 1, stewBroken(), stewWaits(), stewStarts(), stewBroken()), stewEndsThese(8)},
		{"one of none", stewHas(0, 0, 1, good(1)...), stewEndsThese(2)},
		{"eleven of ten", stewHas(10, 0, 10, good(11)...), stewEndsThese(22)},
		{"four of three, and an Ending one that is old", stewHas(3, 1, 1, good(4, stewEnding(4, 3))...), stewEndsThese(8)},
		{"four of three, and an Ending one that is to leave", stewHas(3, 1, 1, good(4, stewLeaves(stewEnding(5, 3)))...), stewEndsThese(8)},
		{"four of three, the last one Ending", stewHas(3, 1, 1, good(3, stewEnding(5, 1))...), nil},

		{"one over, one old", stewHas(3, 1, 1, good(3, old)...), nil},
		{"one over, one to leave", stewHas(3, 1, 1, good(3, leaves)...), nil},
		{"one over, one old and to leave", stewHas(3, 1, 1, good(3, stewLeaves(old))...), nil},
		{"one over, one old that failed", stewHas(3, 1, 1, good(3, stewLive(4, impl.StewFailed))...), nil},
		{"one over, all old", stewHas(3, 1, 1, stewSomeOf(4, old)...), nil},
		{"one over, two may be, one old", stewHas(3, 1, 2, good(3, old)...), nil},
		{"two over, two may be, one to leave", stewHas(3, 1, 2, good(4, leaves)...), nil},
		{"one over, none may be, one old", stewHas(3, 1, 0, good(3, old)...), stewEndsThese(8)},
		{"one over, none may be, one to leave", stewHas(3, 1, 0, leaves, stewGood(), stewGood(), stewGood()), stewEndsThese(2)},
		{"two over, one may be, one old", stewHas(3, 1, 1, stewGood(), old, stewGood(), stewGood(), stewGood()), stewEndsThese(4)},
		{"two over, one may be, one to leave", stewHas(3, 1, 1, stewGood(), leaves, stewGood(), stewGood(), stewGood()), stewEndsThese(4)},
		{"two over, one may be, one old, one to leave, one starting", stewHas(3, 1, 1, old, leaves, stewStarts(), stewGood(), stewGood()), stewEndsThese(6)},
		{"two over, one may be, one old, none may be down", stewHas(3, 0, 1, good(4, old)...), stewEndsThese(10)},

		{"too few, but Gone", stewGone(stewHas(3, 1, 1, good(1)...)), nil},
		{"too many, but Gone", stewGone(stewHas(3, 1, 1, good(9)...)), nil},
		{"none, but Gone", stewGone(stewHas(3, 1, 1)), nil},
	})
}

// The counter's first to end may always end: where it is ready, so are all others, and those are as many as are wanted. So something is asked for at any number above Want.
func TestStewCounterAlwaysEnds(t *testing.T) {
	for want := range impl.StewMaxWant + 1 {
		for down := range impl.StewMaxSpare + 1 {
			for more := 1; more <= 3; more++ {
				copies := stewSomeOf(want+more, stewGood())
				last := 2 * (want + more)
				stewAsksFor(t, "all ready", impl.StewCounter, stewHas(want, down, 1, copies...), stewEndsThese(last))
				copies[0] = stewStarts()
				stewAsksFor(t, "one not ready", impl.StewCounter, stewHas(want, down, 1, copies...), stewEndsThese(2))
			}
		}
	}
}

// What may end is asked of the view: with too few ready, one that is not goes.
func TestStewCounterKeepsReadyOnes(t *testing.T) {
	b := stewHas(3, 0, 1, stewGood(), stewWaits(), stewGood(), stewGood())
	if impl.StewMayEnd(b, "web", 8) {
		t.Error("a ready one may end")
	}
	stewAsksFor(t, "one that waits", impl.StewCounter, b, stewEndsThese(4))
}

func TestStewWaver(t *testing.T) {
	old, leaves := stewOldGood(), stewLeaves(stewGood())
	oldWaits, oldBroken := stewLive(4, impl.StewWaiting), stewLive(4, impl.StewFailed)
	higher, oldEnding := stewLive(6, impl.StewReady), stewEnding(4, impl.StewReady)
	good := func(n int, more ...impl.StewCopy) []impl.StewCopy { return append(stewSomeOf(n, stewGood()), more...) }
	stewCheckAsks(t, impl.StewWaver, []stewAskCase{
		{"none old", stewHas(3, 1, 1, good(3)...), nil},
		{"none old, one over", stewHas(3, 1, 1, good(4)...), nil},
		{"none old, none over may be, one to leave", stewHas(3, 1, 0, good(2, leaves)...), nil},
		{"no copies", stewHas(3, 1, 1), nil},
		{"no copies, none wanted", stewHas(0, 1, 1), nil},
		{"an old one is Ending", stewHas(3, 1, 1, good(3, oldEnding)...), nil},
		{"an old one is Ending, none may be over", stewHas(3, 1, 0, good(3, oldEnding)...), nil},

		{"too few", stewHas(3, 1, 1, good(1, old)...), nil},
		{"too few, all old", stewHas(3, 1, 2, old, oldWaits), nil},
		{"too few, with one that is Ending", stewHas(3, 1, 1, good(1, old, oldEnding)...), nil},
		{"too few, none may be over", stewHas(3, 1, 0, good(1, oldBroken)...), nil},

		{"as many as wanted, one may be over", stewHas(3, 1, 1, good(2, old)...), stewCreates(1)},
		{"as many as wanted, ten may be over", stewHas(3, 1, 10, stewSomeOf(3, old)...), stewCreates(1)},
		{"as many as wanted, one of a higher image", stewHas(3, 1, 1, good(2, higher)...), stewCreates(1)},
		{"as many as wanted, an old one that failed", stewHas(3, 1, 1, good(2, oldBroken)...), stewCreates(1)},
		{"one over, two may be", stewHas(3, 1, 2, good(3, old)...), stewCreates(1)},
		{"one over, two may be, with one that is Ending", stewHas(3, 1, 2, good(3, old, oldEnding)...), stewCreates(1)},
		{"none may be down, one may be over", stewHas(3, 0, 1, stewSomeOf(3, old)...), stewCreates(1)},
		{"one old, none wanted", stewHas(0, 0, 2, old), stewCreates(1)},
		{"as many as wanted, one to leave", stewHas(3, 1, 1, good(1, leaves, old)...), stewCreates(1)},

		{"as many as wanted, none may be over, one may be down", stewHas(3, 1, 0, stewSomeOf(3, old)...), stewEndsThese(6)},
		{"one over, as may be, all ready", stewHas(3, 0, 1, good(1, old, old, stewGood())...), stewEndsThese(6)},
		{"one over, as may be, the old one first", stewHas(3, 0, 1, old, stewGood(), stewGood(), stewGood()), stewEndsThese(2)},
		{"two over, as may be", stewHas(3, 0, 2, old, stewGood(), stewGood(), stewGood(), stewGood()), stewEndsThese(2)},
		{"more than may be over", stewHas(3, 0, 1, old, stewGood(), stewGood(), stewGood(), stewGood()), stewEndsThese(2)},
		{"several may end: one that is not ready", stewHas(3, 1, 1, old, oldWaits, old, stewGood()), stewEndsThese(4)},
		{"several may end: one that is to leave", stewHas(3, 1, 1, old, stewLeaves(old), old, stewGood()), stewEndsThese(4)},
		{"several may end: the greatest Number", stewHas(3, 1, 1, old, higher, old, stewGood()), stewEndsThese(6)},
		{"several may end, a new one is not ready", stewHas(3, 1, 1, old, old, stewGood(), stewStarts()), stewEndsThese(4)},
		{"several may end, a new one that is not ready is to leave", stewHas(3, 1, 1, old, stewLeaves(stewStarts()), old, stewGood()), stewEndsThese(6)},
		{"one may end: it waits", stewHas(3, 0, 1, old, oldWaits, stewGood(), stewGood()), stewEndsThese(4)},
		{"one may end: it failed", stewHas(3, 0, 1, oldBroken, old, old, stewGood()), stewEndsThese(2)},
		{"one may end: it is the only one", stewHas(1, 1, 0, old), stewEndsThese(2)},
		{"one wanted, which may not be down", stewHas(1, 0, 1, old, stewGood()), stewEndsThese(2)},
		{"one old, one old and Ending", stewHas(3, 1, 0, old, stewGood(), stewGood(), oldEnding), stewEndsThese(2)},
		{"one old and Ending is not ready", stewHas(2, 1, 0, old, stewGood(), stewEnding(4, impl.StewFailed)), stewEndsThese(2)},

		{"none may end: the new one starts", stewHas(3, 0, 1, old, old, old, stewStarts()), nil},
		{"none may end: the new one waits", stewHas(1, 0, 1, old, stewWaits()), nil},
		{"none may end: the new ones failed", stewHas(3, 1, 0, old, old, stewBroken()), nil},
		{"none may end: the others are Ending", stewHas(2, 0, 1, old, stewGood(), stewWaits(), stewEnding(5, 3), stewEnding(5, 3)), nil},
		{"none may end, but a new one might", stewHas(3, 1, 0, old, stewGood(), stewStarts()), nil},

		{"Gone", stewGone(stewHas(3, 1, 1, good(2, old)...)), nil},
		{"Gone, as many as may be", stewGone(stewHas(3, 1, 1, good(3, old)...)), nil},
	})
}

func TestStewMender(t *testing.T) {
	broken, oldBroken := stewBroken(), stewLive(4, impl.StewFailed)
	stewCheckAsks(t, impl.StewMender, []stewAskCase{
		{"no copies", stewHas(3, 1, 1), nil},
		{"none failed", stewHas(3, 1, 1, stewGood(), stewWaits(), stewStarts(), stewOldGood(), stewLeaves(stewGood())), nil},
		{"one failed and is Ending", stewHas(3, 1, 1, stewGood(), stewEnding(5, 4)), nil},
		{"one", stewHas(3, 1, 1, stewGood(), broken, stewGood()), stewEndsThese(4)},
		{"the only one", stewHas(1, 0, 1, broken), stewEndsThese(2)},
		{"one of an old image", stewHas(3, 1, 1, oldBroken, stewGood()), stewEndsThese(2)},
		{"one that is to leave", stewHas(3, 1, 1, stewGood(), stewLeaves(broken)), stewEndsThese(4)},
		{"several", stewHas(3, 1, 1, broken, stewGood(), oldBroken, stewLeaves(broken), stewWaits()), stewEndsThese(2, 6, 8)},
		{"all", stewHas(3, 0, 1, broken, broken, broken), stewEndsThese(2, 4, 6)},
		{"several, one of which is Ending", stewHas(3, 0, 1, broken, stewEnding(5, 4), broken), stewEndsThese(2, 6)},
		{"too few as it is", stewHas(10, 0, 1, broken), stewEndsThese(2)},
		{"too many as it is", stewHas(0, 0, 1, broken, broken, stewGood()), stewEndsThese(2, 4)},
		{"Gone", stewGone(stewHas(3, 1, 1, broken, stewGood(), broken)), stewEndsThese(2, 6)},
		{"Gone, none failed", stewGone(stewHas(3, 1, 1, stewGood(), stewEnding(5, 4))), nil},
	})
}

// stewFollows is of one service that follows its load; it has one copy, which says nothing about that.
func stewFollows(per, load, least, most, want, cool int) impl.StewBook {
	b := stewHas(want, 1, 1, stewGood())
	s := &b.Services[0]
	s.Per, s.Load, s.Least, s.Most, s.Cool = per, load, least, most, cool
	return b
}

func TestStewScaler(t *testing.T) {
	stewCheckAsks(t, impl.StewScaler, []stewAskCase{
		{"follows none", stewHas(3, 1, 1, stewGood()), nil},
		{"follows none, no copies", stewHas(3, 1, 1), nil},

		{"even", stewFollows(10, 40, 1, 9, 2, 0), stewScales(4, 0)},
		{"one more than even", stewFollows(10, 41, 1, 9, 2, 0), stewScales(5, 0)},
		{"one less than even", stewFollows(10, 39, 1, 9, 2, 0), stewScales(4, 0)},
		{"less than one copy bears", stewFollows(10, 1, 0, 9, 0, 0), stewScales(1, 0)},
		{"a Per of 1", stewFollows(1, 7, 0, 9, 0, 0), stewScales(7, 0)},
		{"the greatest load, by the greatest Per", stewFollows(1000000, 1000000, 0, 9, 0, 0), stewScales(1, 0)},
		{"the greatest load, by 1", stewFollows(1, 1000000, 0, 10, 0, 0), stewScales(10, 0)},
		{"the greatest Per, a load of 1", stewFollows(1000000, 1, 0, 9, 0, 0), stewScales(1, 0)},
		{"no load", stewFollows(10, 0, 0, 9, 0, 0), nil},
		{"no load, one wanted", stewFollows(10, 0, 0, 9, 1, 3), stewScales(0, 0)},

		{"just Least", stewFollows(10, 20, 2, 5, 3, 3), stewScales(2, 0)},
		{"just Least, as wanted", stewFollows(10, 20, 2, 5, 2, 0), nil},
		{"below Least, as wanted", stewFollows(10, 10, 2, 5, 2, 0), nil},
		{"below Least, as wanted, some Cool", stewFollows(10, 10, 2, 5, 2, 3), stewScales(2, 0)},
		{"far below Least", stewFollows(10, 0, 4, 5, 5, 3), stewScales(4, 0)},
		{"just Most", stewFollows(10, 50, 2, 5, 3, 0), stewScales(5, 0)},
		{"just Most, as wanted", stewFollows(10, 50, 2, 5, 5, 0), nil},
		{"above Most", stewFollows(10, 51, 2, 5, 3, 0), stewScales(5, 0)},
		{"above Most, as wanted", stewFollows(10, 99, 2, 5, 5, 0), nil},
		{"above Most, as wanted, some Cool", stewFollows(10, 99, 2, 5, 5, 1), stewScales(5, 0)},
		{"Least and Most are one", stewFollows(10, 99, 4, 4, 4, 0), nil},
		{"Least and Most are one, no load", stewFollows(10, 0, 4, 4, 4, 0), nil},
		{"Least and Most are 0", stewFollows(10, 99, 0, 0, 0, 0), nil},

		{"more, with some Cool", stewFollows(10, 45, 1, 9, 3, 2), stewScales(5, 0)},
		{"more, with all of it", stewFollows(10, 45, 1, 9, 4, 3), stewScales(5, 0)},
		{"less, without Cool", stewFollows(10, 15, 1, 9, 5, 0), stewScales(5, 1)},
		{"less, with one", stewFollows(10, 15, 1, 9, 5, 1), stewScales(5, 2)},
		{"less, with one less than all", stewFollows(10, 15, 1, 9, 5, 2), stewScales(5, 3)},
		{"less, with all: one less alone", stewFollows(10, 15, 1, 9, 5, 3), stewScales(4, 0)},
		{"less by one, with all", stewFollows(10, 45, 1, 9, 6, 3), stewScales(5, 0)},
		{"equal, without Cool", stewFollows(10, 45, 1, 9, 5, 0), nil},
		{"equal, with one", stewFollows(10, 45, 1, 9, 5, 1), stewScales(5, 0)},
		{"equal, with all", stewFollows(10, 45, 1, 9, 5, 3), stewScales(5, 0)},

		{"wanted below Least, more asked for", stewFollows(10, 55, 3, 9, 1, 0), stewScales(3, 0)},
		{"wanted below Least, some Cool", stewFollows(10, 55, 3, 9, 2, 2), stewScales(3, 0)},
		{"wanted below Least, less asked for", stewFollows(10, 0, 3, 9, 1, 3), stewScales(3, 0)},
		{"wanted below Least, Least asked for", stewFollows(10, 30, 3, 9, 1, 0), stewScales(3, 0)},
		{"wanted below Least, what is wanted asked for", stewFollows(10, 10, 3, 9, 1, 0), stewScales(3, 0)},
		{"wanted above Most, less asked for", stewFollows(10, 25, 1, 5, 8, 0), stewScales(5, 0)},
		{"wanted above Most, less asked for, all Cool", stewFollows(10, 25, 1, 5, 8, 3), stewScales(5, 0)},
		{"wanted above Most, more asked for", stewFollows(10, 99, 1, 5, 8, 1), stewScales(5, 0)},
		{"wanted above Most, what is wanted asked for", stewFollows(10, 80, 1, 5, 8, 0), stewScales(5, 0)},
		{"wanted above a Most of 0", stewFollows(10, 80, 0, 0, 10, 0), stewScales(0, 0)},

		{"Gone, more asked for", stewGone(stewFollows(10, 45, 1, 9, 3, 0)), nil},
		{"Gone, less asked for", stewGone(stewFollows(10, 15, 1, 9, 5, 3)), nil},
		{"Gone, equal with some Cool", stewGone(stewFollows(10, 45, 1, 9, 5, 1)), nil},
		{"Gone, wanted above Most", stewGone(stewFollows(10, 25, 1, 5, 8, 0)), nil},
	})
}

// Copies say nothing about what is wanted.
func TestStewScalerWhateverThereIs(t *testing.T) {
	for _, copies := range [][]impl.StewCopy{nil, {stewBroken()}, stewSomeOf(12, stewGood()), {stewOldGood(), stewLeaves(stewGood()), stewEnding(5, 3)}} {
		b := stewHas(2, 1, 1, copies...)
		s := &b.Services[0]
		s.Per, s.Load, s.Most = 10, 45, 9
		stewAsksFor(t, fmt.Sprintf("%+v", copies), impl.StewScaler, b, stewScales(5, 0))
	}
}

func TestStewSweeper(t *testing.T) {
	drop := []impl.StewAct{{Drop: true}}
	var each []impl.StewCopy
	for state := impl.StewWaiting; state <= impl.StewFailed; state++ {
		each = append(each, stewLive(5, state), stewEnding(5, state), stewLive(4, state))
	}
	stewCheckAsks(t, impl.StewSweeper, []stewAskCase{
		{"one copy", stewGone(stewHas(3, 1, 1, stewGood())), stewEndsThese(2)},
		{"one copy, none may be down", stewGone(stewHas(3, 0, 1, stewGood())), stewEndsThese(2)},
		{"several, all ready", stewGone(stewHas(3, 0, 1, stewGood(), stewOldGood(), stewLeaves(stewGood()))), stewEndsThese(2, 4, 6)},
		{"of each sort", stewGone(stewHas(3, 0, 1, each...)), stewEndsThese(2, 6, 8, 12, 14, 18, 20, 24)},
		{"one live, one Ending", stewGone(stewHas(3, 0, 1, stewEnding(5, 3), stewWaits())), stewEndsThese(4)},
		{"more than are wanted", stewGone(stewHas(0, 0, 1, stewGood(), stewGood())), stewEndsThese(2, 4)},
		{"Ending ones alone", stewGone(stewHas(3, 1, 1, stewEnding(5, 3), stewEnding(5, 1))), nil},
		{"one Ending one alone", stewGone(stewHas(0, 1, 1, stewEnding(4, 4))), nil},
		{"no copies", stewGone(stewHas(3, 1, 1)), drop},
		{"no copies, none wanted", stewGone(stewHas(0, 0, 1)), drop},
		{"no copies, follows its load", stewGone(stewTurnedOf(stewFollows(10, 45, 1, 9, 5, 1), func(b *impl.StewBook) { b.Copies = nil })), drop},
		{"not Gone, no copies", stewHas(3, 1, 1), nil},
		{"not Gone, none wanted, no copies", stewHas(0, 1, 1), nil},
		{"not Gone, none wanted, some there", stewHas(0, 1, 1, stewGood(), stewEnding(5, 3)), nil},
		{"not Gone, as wanted", stewHas(2, 1, 1, stewGood(), stewBroken()), nil},
	})
}

func stewTurnedOf(b impl.StewBook, turn stewTurn) impl.StewBook {
	turn(&b)
	return b
}

func TestStewSweeperMany(t *testing.T) {
	b := stewCrowd(8, impl.StewMaxCopies, 6)
	b.Services[7].Gone, b.Services[2].Gone = true, true
	var numbers []int
	for i := range impl.StewMaxCopies {
		numbers = append(numbers, i+1)
	}
	acts := []impl.StewAct{{Service: "s02", Drop: true}, {Service: "s07", Ends: stewEnds(numbers...)}}
	stewAsksFor(t, "all that there may be", impl.StewSweeper, b, acts)
}

func TestStewDrainer(t *testing.T) {
	leaves, old := stewLeaves(stewGood()), stewOldGood()
	leavesStarting, leavesEnding := stewLeaves(stewStarts()), stewLeaves(stewEnding(5, 3))
	good := func(n int, more ...impl.StewCopy) []impl.StewCopy { return append(stewSomeOf(n, stewGood()), more...) }
	stewCheckAsks(t, impl.StewDrainer, []stewAskCase{
		{"none to leave", stewHas(3, 1, 1, good(3)...), nil},
		{"none to leave, none may be over", stewHas(3, 1, 0, good(3)...), nil},
		{"those that wait stand nowhere", stewHas(3, 1, 0, stewWaits(), stewWaits(), stewGood()), nil},
		{"no copies", stewHas(3, 1, 1), nil},
		{"no copies, none wanted", stewHas(0, 1, 1), nil},
		{"one that is to leave is Ending", stewHas(3, 1, 1, good(3, leavesEnding)...), nil},
		{"one that is to leave is Ending, none may be over", stewHas(3, 1, 0, good(3, leavesEnding)...), nil},

		{"one is old", stewHas(3, 1, 1, good(1, leaves, old)...), nil},
		{"one is old, none may be over", stewHas(3, 1, 0, good(1, leaves, old)...), nil},
		{"the one that is to leave is old", stewHas(3, 1, 1, good(2, stewLeaves(old))...), nil},
		{"one is of a higher image", stewHas(3, 1, 0, good(1, leaves, stewLive(6, 3))...), nil},
		{"one is old, and Ending", stewHas(3, 1, 1, good(2, leaves, stewEnding(4, 3))...), stewCreates(1)},

		{"too few", stewHas(3, 1, 1, good(1, leaves)...), nil},
		{"too few, all to leave", stewHas(3, 1, 0, leaves, leavesStarting), nil},
		{"too few, with one that is Ending", stewHas(3, 1, 1, good(1, leaves, leavesEnding)...), nil},

		{"as many as wanted, one may be over", stewHas(3, 1, 1, good(2, leaves)...), stewCreates(1)},
		{"as many as wanted, ten may be over", stewHas(3, 1, 10, leaves, leaves, leaves), stewCreates(1)},
		{"as many as wanted, one that starts", stewHas(3, 1, 1, good(2, leavesStarting)...), stewCreates(1)},
		{"one over, two may be", stewHas(3, 1, 2, good(3, leaves)...), stewCreates(1)},
		{"one over, two may be, with one that is Ending", stewHas(3, 1, 2, good(3, leaves, leavesEnding)...), stewCreates(1)},
		{"one, none wanted", stewHas(0, 0, 2, leaves), stewCreates(1)},

		{"as many as wanted, none may be over", stewHas(3, 1, 0, leaves, stewGood(), stewGood()), stewEndsThese(2)},
		{"one over, as may be", stewHas(3, 0, 1, leaves, stewGood(), stewGood(), stewGood()), stewEndsThese(2)},
		{"two over, as may be", stewHas(3, 0, 2, good(4, leaves)...), stewEndsThese(10)},
		{"more than may be over", stewHas(3, 0, 1, leaves, stewGood(), stewGood(), stewGood(), stewGood()), stewEndsThese(2)},
		{"several may end: one that is not ready", stewHas(3, 1, 1, leaves, leavesStarting, leaves, stewGood()), stewEndsThese(4)},
		{"several may end: the greatest Number", stewHas(3, 1, 1, leaves, leaves, stewGood(), stewGood()), stewEndsThese(4)},
		{"several may end: the greatest Number of those that are not ready", stewHas(3, 1, 1, stewLeaves(stewBroken()), leavesStarting, leaves, stewGood()), stewEndsThese(4)},
		{"several may end, one that stays is not ready", stewHas(3, 1, 1, leaves, leaves, stewStarts(), stewGood()), stewEndsThese(4)},
		{"one may end: it starts", stewHas(3, 0, 1, leaves, leavesStarting, leaves, stewGood()), stewEndsThese(4)},
		{"one may end: it failed", stewHas(3, 0, 1, leaves, stewLeaves(stewBroken()), leaves, stewGood()), stewEndsThese(4)},
		{"one may end: it is the only one", stewHas(1, 1, 0, leaves), stewEndsThese(2)},
		{"one, and one that is Ending", stewHas(2, 1, 0, leaves, stewGood(), stewLeaves(stewEnding(5, 2))), stewEndsThese(2)},

		{"none may end: the new one starts", stewHas(3, 0, 1, leaves, leaves, leaves, stewStarts()), nil},
		{"none may end: the new one waits", stewHas(1, 0, 1, leaves, stewWaits()), nil},
		{"none may end, but one that stays might", stewHas(3, 1, 0, leaves, stewGood(), stewStarts()), nil},
		{"none may end: the others are Ending", stewHas(2, 0, 1, leaves, stewGood(), stewWaits(), stewEnding(5, 3)), nil},

		{"Gone", stewGone(stewHas(3, 1, 1, good(2, leaves)...)), nil},
		{"Gone, as many as may be", stewGone(stewHas(3, 1, 1, good(3, leaves)...)), nil},
	})
}

// Which berths are to be drained is told by the berths, not by their names or places.
func TestStewDrainerBerths(t *testing.T) {
	for mask := range 1 << impl.StewMaxBerths {
		b := stewHas(impl.StewMaxBerths, 1, 0)
		b.Berths, b.Services[0].Next = nil, 99
		var acts []impl.StewAct
		for i := range impl.StewMaxBerths {
			berth := impl.StewBerth{Name: fmt.Sprintf("b%d", i), Drain: mask>>i&1 == 1}
			b.Berths = append(b.Berths, berth)
			b.Copies = append(b.Copies, impl.StewCopy{Service: "web", Number: 10 + i, Version: 3 + i, Image: 5, State: impl.StewReady, Berth: berth.Name})
			if berth.Drain {
				acts = stewEndsThese(10 + i)
			}
		}
		stewAsksFor(t, fmt.Sprintf("berths %06b", mask), impl.StewDrainer, b, acts)
	}
}

// What is asked for is asked for at the ends of a book, too, though it is not done there.
func TestStewAskAtEnds(t *testing.T) {
	for kind, eager := range stewEager() {
		b := eager.book
		b.Now = impl.StewMaxNumber
		stewAsksFor(t, "the last Now", kind, b, eager.acts)
		if got := impl.StewAsk(kind, b); len(got) == 1 {
			if _, code := impl.StewApply(b, got[0]); code != 7 {
				t.Errorf("%d: code %d at the last Now", kind, code)
			}
		}
	}
	b := stewHas(3, 1, 1, stewGood())
	b.Services[0].Next = impl.StewMaxNumber
	stewAsksFor(t, "the last Next", impl.StewCounter, b, stewCreates(2))
	full := stewHas(3, 1, 1, slices.Concat(stewSomeOf(2, stewGood()), stewSomeOf(198, stewEnding(5, 1)))...)
	full.Now = 400
	stewAsksFor(t, "all copies that there may be", impl.StewCounter, full, stewCreates(1))
	full.Copies = full.Copies[:199]
	stewAsksFor(t, "all but one", impl.StewCounter, full, stewCreates(1))
}
