package tests

import (
	"fmt"
	"math"
	"slices"
	"strings"
	"testing"

	"loop.example/wharfdesk/impl"
)

// deskCalmedBy is the document's sentence on calm rounds with desks.
func deskCalmedBy(w deskWorld, rounds int) deskWorld {
	if !deskWorldIsOk(w) {
		return deskWorld{}
	}
	for range min(max(rounds, 0), 1000) {
		w.Hall.Rec, w.Hall.Now = impl.RecCalm(w.Hall.Rec, 1), w.Hall.Now+1
		at := slices.IndexFunc(w.Hall.Rec.Recorders, func(r impl.Recorder) bool {
			return r.Up && r.Lead && len(r.Wishes) == 0 && r.Disk.Known == len(r.Disk.Slots)
		})
		if at < 0 {
			continue
		}
		if e, found := deskRoundBy(w, at); found {
			w.Hall.Rec = impl.RecDo(w.Hall.Rec, impl.RecEvent{Kind: 7, A: at, Text: hallFormAsRead(e)})
		}
	}
	return w
}

// deskRoundBy is what is brought in at a recorder in a round.
func deskRoundBy(w deskWorld, at int) (entry, bool) {
	view, number := impl.HallView(w.Hall, at), hallNumberBy(w.Hall.Rec.Recorders[at])
	for _, d := range w.Desks {
		if e, is := deskReadBy(w.Hall.House, view, d).next(number); is {
			return e, true
		}
	}
	return hallNextBy(w.Hall.House, view, number)
}

// checkDeskCalm says what so many rounds make of a world.
func checkDeskCalm(t *testing.T, what string, w deskWorld, rounds int, want deskWorld) deskWorld {
	t.Helper()
	if w.Hall.Now < math.MaxInt-1000 && !same(deskCalmedBy(w, rounds), want) {
		t.Errorf("%s is read as\n%+v", what, deskCalmedBy(w, rounds))
	}
	return checkBecomes(t, what, w, impl.DeskWorldOk, deskWorldIsOk, func(w deskWorld) deskWorld { return impl.DeskCalm(w, rounds) }, want)
}

// deskRound says that in one round nothing happens but a round of the recorders, and that these texts are then wished for at a recorder.
func deskRound(t *testing.T, what string, w deskWorld, at int, wishes ...string) deskWorld {
	t.Helper()
	want := deskWith(w, func(w *hallWorld) { w.Rec, w.Now = impl.RecCalm(w.Rec, 1), w.Now+1 }, hallWishes(at, wishes...))
	return checkDeskCalm(t, what, w, 1, want)
}

// One alone that leads, with nothing to do, counts its ticks, whatever desks there are that have what they want.
func TestDeskCalmRounds(t *testing.T) {
	t.Parallel()
	took := recHasAcks(recAck(1, 1), recAck(2, 1), recAck(3, 1), recAck(4, 1), recAck(5, 1))
	hall := hallWith(hallKnowing(hallWebReady()), hallAt(7), hallOne(0, recLeads, took), hallWaits(impl.HallAsked{Text: "time 1", From: 3}))
	idle := deskThree()[:2]
	for _, list := range [][]desk{nil, idle, idle[1:]} {
		alone := deskIn(hall, list...)
		if len(list) == 1 {
			alone.Desks[0].Text = "end\n"
		}
		for rounds, want := range map[int]int{
			math.MinInt: 0, -1000: 0, -2: 0, -1: 0, 0: 0, 1: 1, 2: 2, 3: 3, 500: 500,
			999: 999, 1000: 1000, 1001: 1000, 1002: 1000, 2000: 1000, 1000000: 1000, math.MaxInt: 1000,
		} {
			what := fmt.Sprint(len(list), " desks, ", rounds, " rounds")
			checkDeskCalm(t, what, alone, rounds, deskWith(alone, hallAt(7+want), hallOne(0, recHeardFor(want))))
		}
		last := deskWith(alone, hallAt(math.MaxInt-2))
		checkDeskCalm(t, "to the last Now", last, 2, deskWith(alone, hallAt(math.MaxInt), hallOne(0, recHeardFor(2))))
		checkDeskCalm(t, "beyond the last Now", last, 5, deskWith(alone, hallAt(math.MaxInt), hallOne(0, recHeardFor(5))))
	}
	for _, rounds := range []int{math.MinInt, -1, 0} {
		for what, w := range map[string]deskWorld{"a port": deskPort(), "a quay": deskQuay(), "new": impl.DeskNew(hallHouse(), 5, deskThree()), "led": deskIn(hallLedBy(hallWebReady()[:2]), deskThree()...)} {
			checkDeskCalm(t, fmt.Sprintf("%s, %d rounds", what, rounds), w, rounds, w)
		}
	}
}

func TestDeskCalmNotOk(t *testing.T) {
	for what, w := range deskNotOk() {
		for _, rounds := range []int{math.MinInt, -1, 0, 1, 2, 1000, 1001, math.MaxInt} {
			checkDeskCalm(t, fmt.Sprintf("%s, %d rounds", what, rounds), w, rounds, deskWorld{})
		}
	}
}

// The first desk that has something, in the order of the desks; and what comes of itself only if none has.
func TestDeskCalmWhichDesk(t *testing.T) {
	ready := hallWebReady()
	has := atDoor("d3", annsDesk("web", deskText("web dev 1,2,0,1,,")))
	none := desk{Who: "ann", Door: "d4", Prefix: "x"}
	poor := desk{Who: "ann", Door: "d5", Prefix: "p", Text: deskText("poor dev 1,9,0,9,,")}
	refused := desk{Who: "eve", Door: "d6", Prefix: "r", Text: deskText("ref dev 1,1,0,1,,")}
	odd := desk{Who: "ann", Door: "d7", Prefix: "o", Text: deskBlock("odd")}
	faulty := desk{Who: "ann", Door: "d8", Prefix: "f", Text: "end\n"}
	makes := func(name string) desk {
		return desk{Who: "ann", Door: "d-" + name, Prefix: name, Text: deskText(name + " ops 1,1,0,1,,")}
	}
	made := func(name string) string {
		return "slip 500001 d-" + name + " 3 " + name + ":0 ann make " + name + " ops fleet 1,1,0,1,,"
	}
	bound := "bound 2 dev copies 9"
	for _, c := range []struct {
		what string
		row  texts
		list []desk
		next string
	}{
		{"nobody has anything", ready, []desk{has, none}, ""},
		{"the first", ready, []desk{makes("m"), makes("n")}, made("m")},
		{"turned around", ready, []desk{makes("n"), makes("m")}, made("n")},
		{"the second", ready, []desk{has, makes("m"), makes("n")}, made("m")},
		{"the last of four", ready, []desk{has, none, odd, makes("m")}, made("m")},
		{"behind those that wait", inOneRow(ready, bound), []desk{poor, refused, odd, makes("m")}, made("m")},
		{"behind a fault", ready, []desk{faulty, makes("m")}, made("m")},
		{"ahead of an act", ready[:2], []desk{makes("m")}, made("m")},
		{"ahead of an act, the last of four", ready[:2], []desk{has, none, odd, makes("m")}, made("m")},
		{"ahead of a tick", ready[:3], []desk{none, makes("m")}, made("m")},
		{"ahead of a sweep", hallSwept(), []desk{none, makes("m")}, made("m")},
		{"a draw ahead of an act", inOneRow(ready[:2], bound), []desk{none, {Who: "ann", Door: "d9", Prefix: "m", Text: deskText("m dev 1,1,0,1,,")}}, "draw 500001 d9 dev copies 2"},
		{"a purse goes back ahead of an act", inOneRow(ready[:2], bound, "draw 2 d4 dev copies 2"), []desk{has, none}, "back 500001 d4 dev copies"},
		{"another door's purse stays", inOneRow(ready, bound, "draw 2 d9 dev copies 2"), []desk{has, none}, ""},
		{"an act, as no desk has anything", ready[:2], []desk{has, none, odd, faulty}, "act 2 web 2 2 * * *"},
		{"an act, as all wait", inOneRow(ready[:2], bound), []desk{poor, refused}, "act 2 web 2 2 * * *"},
		{"a tick, as no desk has anything", ready[:3], []desk{has, none}, "sea 500001 tick"},
		{"a sweep, as no desk has anything", hallSwept(), []desk{none, odd}, "sweep 500001"},
		{"no desks", ready[:2], nil, "act 2 web 2 2 * * *"},
	} {
		var wishes texts
		if c.next != "" {
			wishes = texts{c.next}
		}
		w := deskIn(hallLedBy(c.row), c.list...)
		deskRound(t, c.what, w, 0, wishes...)
		deskRound(t, c.what+", one alone", deskIn(hallWith(hallKnowing(c.row), hallOne(0, recLeads)), c.list...), 0, wishes...)
		deskRound(t, c.what+", and much is asked", deskWith(w, hallAt(50), hallWaits(hallTimes(12)...)), 0, wishes...)
		// Without one to bring anything in at, nobody does.
		deskRound(t, c.what+", and nobody leads", deskWith(w, hallOne(0, recIsQuiet)), 0)
		deskRound(t, c.what+", and there is a wish", deskWith(w, hallWishes(0, "time 1")), 0)
		deskRound(t, c.what+", and a slot that is not known", deskWith(w, hallOne(0, func(r *impl.Recorder) { r.Disk.Slots = append(r.Disk.Slots, recSlot(9, "time 1")) })), 0)
	}
}

// Who leads is looked at, by what it knows itself.
func TestDeskCalmWhoIsAsked(t *testing.T) {
	ready := hallWebReady()
	wants := atDoor("d3", annsDesk("web", deskText("web dev 2,2,0,1,,")))
	for at := range 3 {
		rows := []texts{nil, nil, nil}
		rows[at] = ready
		deskRound(t, fmt.Sprint("at ", at, ", it knows of web"), deskIn(hallWith(hallKnowing(rows...), hallOne(at, recLeads)), wants), at, "slip 500001 d3 3 web:4 ann change web 4 2,2,0,1,,")
		rows = []texts{ready, ready, ready}
		rows[at] = ready[:1]
		deskRound(t, fmt.Sprint("at ", at, ", it does not know of web"), deskIn(hallWith(hallKnowing(rows...), hallOne(at, recLeads)), wants), at, "slip 500001 d3 3 web:0 ann make web dev fleet 2,2,0,1,,")
	}
	full := func(w *hallWorld) {
		w.Rec.Flight = slices.Repeat([]impl.RecMessage{{Kind: impl.RecRefuse, From: 1, To: 3}}, 600)
	}
	two := deskIn(hallWith(hallKnowing(ready, ready[:1], ready), hallOne(0, recLeads), hallOne(1, recLeads), full), wants)
	deskRound(t, "the first of two", two, 0, "slip 500001 d3 3 web:4 ann change web 4 2,2,0,1,,")
	deskRound(t, "the first of two wishes for something", deskWith(two, hallWishes(0, "time 1")), 1, "slip 500001 d3 3 web:0 ann make web dev fleet 2,2,0,1,,")
	two.Desks[0].Text = deskText("web dev 1,2,0,1,,")
	deskRound(t, "the first of two has nothing to do", two, 0)
}

func TestDeskCalmNumbers(t *testing.T) {
	raised := hallWebReady()[:1]
	for form, of := range map[string]desk{
		"draw N d2 dev copies 2":                             {Who: "ann", Door: "d2", Prefix: "n", Text: deskText("new dev 1,1,0,1,,")},
		"slip N d2 3 new:0 ann make new lab fleet 1,1,0,1,,": {Who: "ann", Door: "d2", Prefix: "n", Text: deskText("new lab 1,1,0,1,,")},
		"back N d4 dev copies":                               {Who: "ann", Door: "d4", Prefix: "n"},
	} {
		begin := inOneRow(raised, "bound 2 dev copies 9", "draw 4 d4 dev copies 2")
		if strings.Contains(form, "lab") {
			begin = inOneRow(raised, "bound 2 ops copies 9", "draw 4 d4 ops copies 2")
		}
		for _, c := range hallNumbers {
			wishes := hallNumbered(form, c.number)
			deskRound(t, c.what, deskIn(hallLedBy(inOneRow(begin, c.more)), of), 0, wishes...)
			deskRound(t, c.what+", ahead", deskIn(hallLedBy(inOneRow(c.more, begin)), of), 0, wishes...)
			other := hallWith(hallKnowing(begin, inOneRow(begin, c.more), c.more), hallOne(0, recLeads))
			deskRound(t, c.what+", elsewhere", deskIn(other, of), 0, hallNumbered(form, 500001)...)
		}
	}
	// At the end of the numbers an act comes all the same: it has one of its own.
	for _, list := range [][]desk{nil, {{Who: "ann", Door: "d2", Prefix: "n", Text: deskText("new dev 1,1,0,1,,")}}} {
		deskRound(t, "at the end", deskIn(hallLedBy(inOneRow(hallWebReady()[:2], "time 1000000")), list...), 0, "act 2 web 2 2 * * *")
	}
}

// Without desks, or with ones that never have anything, all is as with HallCalm.
func TestDeskCalmAsHall(t *testing.T) {
	idle := [][]desk{nil, desksOf("x", "y"), {{Who: "ann", Door: "d1", Text: "end\n"}}, {{Who: "eve", Door: "d9"}}}
	for n := 1; n <= 5; n++ {
		for _, hall := range []hallWorld{hallRaised(t, n), hallWith(hallRaised(t, n), func(w *hallWorld) { *w = impl.HallCalm(*w, 24) })} {
			for _, list := range idle {
				for _, rounds := range []int{0, 1, 2, 7, 25, 80} {
					checkDeskCalm(t, fmt.Sprintf("of %d, %d rounds", n, rounds), deskIn(hall, list...), rounds, deskIn(impl.HallCalm(hall, rounds), list...))
				}
			}
		}
	}
}

// From nothing to what sheets say, to what they say then, and to nothing again.
func TestDeskCalmToTheEnd(t *testing.T) {
	for n := 1; n <= 5; n++ {
		list := []desk{
			{Who: "ann", Door: "d1", Prefix: "a", Text: deskText("api dev 1,2,0,1,,")},
			{Who: "ann", Door: "d2", Prefix: "b", Text: deskText("base ops 1,1,0,1,,")},
		}
		w := impl.DeskNew(hallHouse(), n, list)
		for _, text := range []string{"sea 1 raise b1", "bound 2 dev copies 5"} {
			w = impl.DeskStep(w, deskEvent{Kind: impl.DeskHall, Hall: hallAsksOf(t, 0, text)})
		}
		rows := []texts{
			{
				"sea 1 raise b1", "bound 2 dev copies 5", "draw 500001 d1 dev copies 3", "slip 500002 d1 3 api:0 ann make api dev fleet 1,2,0,1,,",
				"slip 500003 d2 3 base:0 ann make base ops fleet 1,1,0,1,,", "act 3 api 2 2 * * *", "act 4 base 3 1 * * *", "sea 500004 tick", "sea 500005 tick",
			},
			{
				"draw 500006 d1 dev copies 2", "slip 500007 d1 3 api:4 ann change api 4 1,4,0,1,,", "slip 500008 d2 3 base:5 ann end base 5",
				"act 9 api 8 2 * * *", "act 10 base 9 0 * 1:7 *", "sea 500009 tick", "act 12 base 11 0 * * drop", "sweep 500010", "sea 500011 tick",
			},
			{"slip 500012 d1 3 api:6 ann end api 6", "act 15 api 15 0 * 1:7,2:7,3:14,4:14 *", "sea 500013 tick", "act 17 api 16 0 * * drop", "sweep 500014"},
		}
		var want texts
		for i, turns := range [][2]string{{list[0].Text, list[1].Text}, {deskText("api dev 1,4,0,1,,"), ""}, {"", ""}} {
			for place, text := range turns {
				w = impl.DeskStep(w, deskEvent{Kind: impl.DeskTurns, B: place, Text: text})
			}
			w = checkDeskCalm(t, fmt.Sprint("of ", n), w, 100, deskCalmedBy(w, 100))
			want = append(want, rows[i]...)
			if row := impl.HallFixed(w.Hall); !slices.Equal(row, want) {
				t.Errorf("of %d: %q", n, row)
			}
			checkDeskDone(t, fmt.Sprint("of ", n), w, true)
		}
		if b := impl.HallView(w.Hall, n-1); len(b.Gate.Objects)+len(b.Stew.Services)+len(b.Stew.Copies)+len(b.Gate.Purses) != 0 || !impl.HallRight(w.Hall) {
			t.Errorf("of %d: %+v", n, b)
		}
	}
}

// Many rounds are so many times one round.
func TestDeskCalmRoundByRound(t *testing.T) {
	for n := 1; n <= 5; n++ {
		one := impl.DeskStep(impl.DeskNew(hallHouse(), n, deskThree()), deskEvent{Kind: impl.DeskHall, Hall: hallAsksOf(t, 0, "sea 1 raise b1")})
		many := one
		for rounds := range 60 {
			if got := impl.DeskCalm(many, rounds); !same(got, one) {
				t.Fatalf("of %d, %d rounds:\n%+v, not\n%+v", n, rounds, got, one)
			}
			one = impl.DeskCalm(one, 1)
		}
		checkDeskDone(t, fmt.Sprint("of ", n), one, true)
	}
}
