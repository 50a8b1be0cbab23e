package tests

import (
	"fmt"
	"math"
	"slices"
	"strconv"
	"strings"
	"testing"

	"loop.example/wharfdesk/impl"
)

// hallNumberBy is that of what comes of itself at a recorder, by the document's words.
func hallNumberBy(r impl.Recorder) int {
	most := 500000
	for _, s := range r.Disk.Slots[:r.Disk.Known] {
		if e, isRead := impl.HallRead(s.Text); isRead && e.Kind != 7 {
			most = max(most, e.Number)
		}
	}
	return most + 1
}

// hallCalmedBy is the document's sentence on calm rounds.
func hallCalmedBy(w hallWorld, rounds int) hallWorld {
	if !hallWorldIsOk(w) {
		return hallWorld{}
	}
	for range min(max(rounds, 0), 1000) {
		w.Rec, w.Now = impl.RecCalm(w.Rec, 1), w.Now+1
		at := slices.IndexFunc(w.Rec.Recorders, func(r impl.Recorder) bool {
			return r.Up && r.Lead && len(r.Wishes) == 0 && r.Disk.Known == len(r.Disk.Slots)
		})
		if at < 0 {
			continue
		}
		if e, found := impl.HallNext(w.House, impl.HallView(w, at), hallNumberBy(w.Rec.Recorders[at])); found {
			w.Rec = impl.RecDo(w.Rec, impl.RecEvent{Kind: 7, A: at, Text: impl.HallForm(e)})
		}
	}
	return w
}

// checkHallCalm says what so many rounds make of a world.
func checkHallCalm(t *testing.T, what string, w hallWorld, rounds int, want hallWorld) hallWorld {
	t.Helper()
	if w.Now < math.MaxInt-1000 && !same(hallCalmedBy(w, rounds), want) {
		t.Errorf("%s is read as\n%+v", what, hallCalmedBy(w, rounds))
	}
	return checkBecomes(t, what, w, impl.HallWorldOk, hallWorldIsOk, func(w hallWorld) hallWorld { return impl.HallCalm(w, rounds) }, want)
}

// hallRound says that in one round nothing happens but a round of the recorders, and that these texts are then wished for at a recorder.
func hallRound(t *testing.T, what string, w hallWorld, at int, wishes ...string) hallWorld {
	t.Helper()
	want := hallWith(w, func(w *hallWorld) { w.Rec, w.Now = impl.RecCalm(w.Rec, 1), w.Now+1 }, hallWishes(at, wishes...))
	return checkHallCalm(t, what, w, 1, want)
}

// hallLedBy is a world in which the first knows a row, and leads.
func hallLedBy(row texts) hallWorld {
	return hallWith(hallKnowing(row, row, row), hallAt(7), hallOne(0, recLeads))
}

// One alone that leads and has nothing to do counts its ticks.
func TestHallCalmRounds(t *testing.T) {
	took := recHasAcks(recAck(1, 1), recAck(2, 1), recAck(3, 1), recAck(4, 1), recAck(5, 1))
	alone := hallWith(hallKnowing(hallWebReady()), hallAt(7), hallOne(0, recLeads, took), hallWaits(impl.HallAsked{Text: "time 1", From: 3}))
	for rounds, want := range map[int]int{
		math.MinInt: 0, -1000: 0, -2: 0, -1: 0, 0: 0, 1: 1, 2: 2, 3: 3, 500: 500,
		999: 999, 1000: 1000, 1001: 1000, 1002: 1000, 2000: 1000, 1000000: 1000, math.MaxInt: 1000,
	} {
		checkHallCalm(t, fmt.Sprint(rounds, " rounds"), alone, rounds, hallWith(alone, hallAt(7+want), hallOne(0, recHeardFor(want))))
	}
	for _, rounds := range []int{math.MinInt, -1, 0} {
		for what, w := range map[string]hallWorld{"a port": hallPort(), "a quay": hallQuay(), "new": impl.HallNew(hallHouse(), 5), "led": hallLedBy(hallWebReady()[:2])} {
			checkHallCalm(t, fmt.Sprintf("%s, %d rounds", what, rounds), w, rounds, w)
		}
	}
	last := hallWith(alone, hallAt(math.MaxInt-2))
	checkHallCalm(t, "to the last Now", last, 2, hallWith(alone, hallAt(math.MaxInt), hallOne(0, recHeardFor(2))))
	checkHallCalm(t, "beyond the last Now", last, 5, hallWith(alone, hallAt(math.MaxInt), hallOne(0, recHeardFor(5))))
}

func TestHallCalmNotOk(t *testing.T) {
	for what, w := range hallNotOk() {
		for _, rounds := range []int{math.MinInt, -1, 0, 1, 2, 1000, 1001, math.MaxInt} {
			checkHallCalm(t, fmt.Sprintf("%s, %d rounds", what, rounds), w, rounds, hallWorld{})
		}
	}
}

// What is next, as the first sees it who leads.
func TestHallCalmBringsIn(t *testing.T) {
	ready := hallWebReady()
	drained := inOneRow(ready, "sea 4 drain b1")
	for _, c := range []struct {
		what string
		row  texts
		next texts
	}{
		{"nothing known", nil, nil},
		{"a berth", ready[:1], nil},
		{"an act", ready[:2], texts{"act 2 web 2 2 * * *"}},
		{"a tick", ready[:3], texts{"sea 500001 tick"}},
		{"a second tick", ready[:4], texts{"sea 500001 tick"}},
		{"all is done", ready, nil},
		{"one of several acts", hallMadeIn(3, "1,2,,,,"), texts{"act 3 x0 1 2 * * *"}},
		{"an act of the last steward", drained, texts{"act 6 web 3 1 * * *"}},
		{"to be dropped", hallSwept()[:2], texts{"act 2 web 2 0 * * drop"}},
		{"a sweep", hallSwept(), texts{"sweep 500001"}},
		{"all swept", inOneRow(hallSwept(), "sweep 500001"), nil},
	} {
		hallRound(t, c.what, hallLedBy(c.row), 0, c.next...)
		hallRound(t, c.what+", one alone", hallWith(hallKnowing(c.row), hallOne(0, recLeads)), 0, c.next...)
		hallRound(t, c.what+", and much is asked", hallWith(hallLedBy(c.row), hallAt(50), hallWaits(hallTimes(12)...)), 0, c.next...)
		hallRound(t, c.what+", and nobody leads", hallWith(hallLedBy(c.row), hallOne(0, recIsQuiet)), 0)
	}
}

// Who is asked: the first that leads, wishes for nothing, and knows all of its slots.
func TestHallCalmWhoIsAsked(t *testing.T) {
	row := hallWebReady()[:2]
	const act = "act 2 web 2 2 * * *"
	// While the flight is full neither of two that lead hears of the other one.
	full := func(w *hallWorld) {
		w.Rec.Flight = slices.Repeat([]impl.RecMessage{{Kind: impl.RecRefuse, From: 1, To: 3}}, 600)
	}
	two := hallWith(hallLedBy(row), hallOne(1, recLeads), full)
	wishing := func(r *impl.Recorder) { r.Wishes = texts{"time 1"} }
	more := func(r *impl.Recorder) { r.Disk.Slots = append(r.Disk.Slots, recSlot(9, "time 1")) }
	down := func(r *impl.Recorder) { *r = impl.Recorder{Number: r.Number, Of: r.Of, Safe: r.Safe, Disk: r.Safe} }
	for at := range 3 {
		w := hallWith(hallKnowing(row, row, row), hallOne(at, recLeads))
		hallRound(t, fmt.Sprint("the one that leads is at ", at), w, at, act)
		hallRound(t, fmt.Sprint("wishes of the one that leads at ", at), hallWith(w, hallOne(at, wishing)), at)
		hallRound(t, fmt.Sprint("a slot that is not known by the one that leads at ", at), hallWith(w, hallOne(at, more)), at)
		other := (at + 1) % 3
		hallRound(t, fmt.Sprint("another one down, at ", other), hallWith(w, hallOne(other, down)), at, act)
		// What another one wishes for comes to the one that leads in the round after next.
		hallRound(t, fmt.Sprint("wishes of another one, at ", other), hallWith(w, hallOne(other, wishing)), at, act)
	}
	hallRound(t, "the first of two", two, 0, act)
	hallRound(t, "the first of two wishes for something", hallWith(two, hallOne(0, wishing)), 1, act)
	hallRound(t, "the first of two does not know all", hallWith(two, hallOne(0, more)), 1, act)
	hallRound(t, "both wish for something", hallWith(two, hallOne(0, wishing), hallOne(1, wishing)), 1)
	// Each goes by what it knows itself.
	apart := hallWith(hallKnowing(hallWebReady(), hallWebReady()[:3], row), hallOne(0, recLeads))
	hallRound(t, "the first sees nothing to do", apart, 0)
	hallRound(t, "the first of two sees nothing to do", hallWith(apart, hallOne(2, recLeads), full), 0)
	behind := hallWith(hallKnowing(row, hallWebReady(), hallWebReady()), hallOne(0, recLeads))
	hallRound(t, "the first does not know of the act", behind, 0, act)
	trying := hallWith(hallKnowing(row, row, row), hallOne(0, func(r *impl.Recorder) { r.Trying, r.Ballot = true, 9 }))
	hallRound(t, "one that tries", trying, 0)
}

// A round of the recorders comes ahead of the asking: who has come to lead by it is asked, and who leads no longer is not.
func TestHallCalmRoundComesFirst(t *testing.T) {
	row := hallWebReady()[:2]
	const act = "act 2 web 2 2 * * *"
	promised := impl.RecMessage{Kind: impl.RecPromised, From: 2, To: 1, Ballot: 9}
	tries := hallWith(hallKnowing(row, row, row), hallOne(0, func(r *impl.Recorder) { r.Trying, r.Ballot, r.Yes = true, 9, []int{1} }), func(w *hallWorld) { w.Rec.Flight = []impl.RecMessage{promised} })
	hallRound(t, "comes to lead", tries, 0, act)
	prepare := impl.RecMessage{Kind: impl.RecPrepare, From: 2, To: 1, Ballot: 11}
	hallRound(t, "leads no longer", hallWith(hallLedBy(row), func(w *hallWorld) { w.Rec.Flight = []impl.RecMessage{prepare} }), 0)
	wished := impl.RecMessage{Kind: impl.RecWished, From: 2, To: 1, Text: "time 1"}
	hallRound(t, "a wish comes", hallWith(hallLedBy(row), func(w *hallWorld) { w.Rec.Flight = []impl.RecMessage{wished} }), 0)
	known := hallWith(hallLedBy(row), hallOne(0, func(r *impl.Recorder) { r.Wishes = texts{row[1]} }))
	hallRound(t, "what is wished for is known", known, 0, act)
	chosen := hallWith(hallLedBy(row), hallOne(0, func(r *impl.Recorder) { r.Disk.Known, r.Acks = 1, []impl.RecAck{recAck(2, 2, 3)} }))
	hallRound(t, "the last becomes known", chosen, 0, act)
}

// hallNumbers are texts that are known beside others, and the number of what comes by them then; 0 where nothing can come.
var hallNumbers = []struct {
	what   string
	more   texts
	number int
}{
	{"none above HallMaxAsks", nil, 500001},
	{"one at HallMaxAsks less 1", texts{"time 499999"}, 500001},
	{"one at HallMaxAsks", texts{"time 500000"}, 500001},
	{"one above it", texts{"time 500001"}, 500002},
	{"some above it", texts{"time 500001", "time 700000", "time 600000", "time 2"}, 700001},
	{"some turned around", texts{"time 700000", "time 500001"}, 700001},
	{"one twice", texts{"time 700000", "time 500001", "time 700000"}, 700001},
	{"a slip", texts{"slip 600000 d1 3 * ann take 99"}, 600001},
	{"a draw", texts{"draw 600000 d8 dev copies 1"}, 600001},
	{"a back", texts{"back 600000 d8 dev copies"}, 600001},
	{"a bound", texts{"bound 600000 ops copies 9"}, 600001},
	{"a sweep", texts{"bound 1 ops copies 9", "sweep 600000", "slip 1 d1 3 * ann take 99"}, 600001},
	{"a tick of the sea", texts{"sea 600000 fails ghost 1"}, 600001},
	{"an act", texts{"act 600000 ghost 1 0 * * *"}, 500001},
	{"an act that is higher", texts{"act 900000 ghost 1 0 * * *", "time 600000", "act 1000000 ghost 1 0 * * *"}, 600001},
	{"texts that are not read", texts{"time 0600000", "time 600000 ", "TIME 600000", "", "600000"}, 500001},
	{"the last but one", texts{"time 999999"}, 1000000},
	{"an act at HallMaxNumber", texts{"act 1000000 ghost 1 0 * * *", "time 999999"}, 1000000},
	{"an entry at HallMaxNumber", texts{"time 1000000"}, 0},
	{"an entry at HallMaxNumber among others", texts{"time 600000", "time 1000000", "time 700000"}, 0},
}

// hallNumbered is a form, with a number in place of N; none with the number 0.
func hallNumbered(form string, number int) texts {
	if form == "" || number == 0 {
		return nil
	}
	return texts{strings.Replace(form, "N", strconv.Itoa(number), 1)}
}

// Numbers: one more than the greatest of HallMaxAsks and those of the entries that are known, but for acts.
func TestHallCalmNumbers(t *testing.T) {
	for next, begin := range map[string]texts{"sea N tick": hallWebReady()[:3], "sweep N": hallSwept()} {
		for _, c := range hallNumbers {
			// Only what is behind a sweep could change what is next.
			if next == "sweep N" && c.what == "a sweep" {
				continue
			}
			hallRound(t, next+", "+c.what, hallLedBy(inOneRow(begin, c.more)), 0, hallNumbered(next, c.number)...)
			hallRound(t, next+", "+c.what+", ahead", hallLedBy(inOneRow(c.more, begin)), 0, hallNumbered(next, c.number)...)
			// What others know is not looked at.
			other := hallWith(hallKnowing(begin, inOneRow(begin, c.more), inOneRow(c.more)), hallOne(0, recLeads))
			hallRound(t, next+", "+c.what+", elsewhere", other, 0, hallNumbered(next, 500001)...)
		}
	}
	hallRound(t, "an act needs no number", hallLedBy(inOneRow(hallWebReady()[:2], "time 1000000")), 0, "act 2 web 2 2 * * *")
}

// hallRaised is a new world in which a berth and web were asked for.
func hallRaised(t *testing.T, n int) hallWorld {
	t.Helper()
	w := impl.HallNew(hallHouse(), n)
	w = impl.HallStep(w, hallAsksOf(t, 0, "sea 1 raise b1"))
	return impl.HallStep(w, hallThroughOf(0, 7, asksMake("web", "dev", texts{"fleet"}, "1", "2", "", "", "", "")))
}

// From a new world to web, and to nothing again.
func TestHallCalmToTheEnd(t *testing.T) {
	for n := 1; n <= 5; n++ {
		w := hallRaised(t, n)
		w = checkHallCalm(t, fmt.Sprint("made, of ", n), w, 60, hallCalmedBy(w, 60))
		if row := impl.HallFixed(w); !slices.Equal(row, texts{"sea 1 raise b1", "slip 7 d1 3 web:0 ann make web dev fleet 1,2,,,,", "act 2 web 2 2 * * *", "sea 500001 tick", "sea 500002 tick"}) {
			t.Errorf("of %d: %q", n, row)
		}
		if !impl.HallDone(w) || !impl.HallRight(w) || len(impl.HallView(w, n-1).Stew.Copies) != 2 {
			t.Errorf("of %d: %+v", n, w)
		}
		w = impl.HallStep(w, hallThroughOf(n-1, 7, asksEnd("web", 0)))
		w = checkHallCalm(t, fmt.Sprint("ended, of ", n), w, 60, hallCalmedBy(w, 60))
		if got := impl.HallFixed(w)[5:]; !slices.Equal(got, texts{"slip 7 d1 3 web:4 ann end web 0", "act 6 web 6 0 * 1:5,2:5 *", "sea 500003 tick", "act 8 web 7 0 * * drop", "sweep 500004"}) {
			t.Errorf("of %d: %q", n, got)
		}
		if b := impl.HallView(w, 0); !impl.HallDone(w) || !impl.HallRight(w) || len(b.Gate.Objects)+len(b.Stew.Services)+len(b.Stew.Copies) != 0 {
			t.Errorf("of %d: %+v", n, w)
		}
	}
}

// Nothing comes of itself twice, also where nothing comes to an end: no berth is there for what waits.
func TestHallCalmNothingTwice(t *testing.T) {
	w := impl.HallCalm(impl.HallStep(hallRaised(t, 3), hallAsksOf(t, 0, "sea 2 drain b1")), 400)
	row := impl.HallFixed(w)
	if len(row) != 120 || len(slices.Compact(slices.Sorted(slices.Values(row)))) != len(row) || row[119] != "sea 500116 tick" {
		t.Errorf("%d are fixed: %q", len(row), row)
	}
	if impl.HallDone(w) {
		t.Error("done, though nothing is ready")
	}
	checkHallCalm(t, "all places taken", w, 30, hallCalmedBy(w, 30))
}

// Many rounds are so many times one round.
func TestHallCalmRoundByRound(t *testing.T) {
	for n := 1; n <= 5; n++ {
		one := hallRaised(t, n)
		many := one
		for rounds := range 50 {
			if got := impl.HallCalm(many, rounds); !same(got, one) {
				t.Fatalf("of %d, %d rounds:\n%+v, not\n%+v", n, rounds, got, one)
			}
			one = impl.HallCalm(one, 1)
		}
	}
}
