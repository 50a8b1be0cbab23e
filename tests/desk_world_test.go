package tests

import (
	"fmt"
	"math"
	"slices"
	"testing"

	"loop.example/wharfdesk/impl"
)

type (
	deskWorld = impl.DeskWorld
	deskEvent = impl.DeskEvent
)

// deskWorldIsOk is the document's sentence on when a world is ok.
func deskWorldIsOk(w deskWorld) bool {
	return hallWorldIsOk(w.Hall) && deskAreApart(w.Desks)
}

// deskIn is a hall with desks.
func deskIn(w hallWorld, list ...desk) deskWorld {
	return spread(deskWorld{Hall: w, Desks: list})
}

// deskWith is a world whose hall is turned.
func deskWith(w deskWorld, turns ...hallTurn) deskWorld {
	w = spread(w)
	w.Hall = hallWith(w.Hall, turns...)
	return w
}

// deskThree are apart: the first wants web as hallWebReady leads to it, the second has nothing on its sheet, and the third wants something new.
func deskThree() []desk {
	return []desk{
		{Who: "ann", Door: "d1", Prefix: "web", Text: deskText("web dev 1,2,0,1,,")},
		{Who: "bob", Door: "d2", Prefix: "a"},
		{Who: "ann", Door: "d3", Prefix: "n", Text: deskText("new dev 1,2,0,1,,")},
	}
}

// deskPort is ok, with something in each list.
func deskPort() deskWorld {
	return deskIn(hallPort(), deskThree()...)
}

// deskNotApart are lists of desks that are not apart, each for but one thing.
func deskNotApart() map[string][]desk {
	return map[string][]desk{
		"five desks":         desksOf("a", "b", "c", "d", "e"),
		"no desk at all":     {{}},
		"a Who that is none": {{Who: "Ann", Door: "d1"}},
		"one Door":           {annsDesk("a", ""), annsDesk("b", "")},
		"one Prefix":         desksOf("a", "b", "a"),
		"a Prefix begins":    desksOf("b", "web", "we"),
		"no Prefix of two":   desksOf("a", ""),
	}
}

// deskNotOk are worlds that are not ok, each for but one thing.
func deskNotOk() map[string]deskWorld {
	worlds := map[string]deskWorld{"nothing and nobody": {}}
	for what, w := range hallNotOk() {
		worlds[what] = deskIn(w, deskThree()...)
		worlds[what+", no desks"] = deskIn(w)
	}
	for what, list := range deskNotApart() {
		worlds[what] = deskIn(hallPort(), list...)
	}
	return worlds
}

func checkDeskWorld(t *testing.T, what string, w deskWorld, ok bool) {
	t.Helper()
	checkSaysOf(t, what, w, impl.DeskWorldOk, deskWorldIsOk, ok)
}

// checkDeskNew says which world is new with so many recorders, in new memory.
func checkDeskNew(t *testing.T, what string, h house, n int, list []desk, want deskWorld) {
	t.Helper()
	h, list = spread(h), spread(list)
	houseWas, desksWere := whole(h), whole(list)
	got := impl.DeskNew(h, n, list)
	if !same(got, want) {
		t.Errorf("%s, %d: %+v, not %+v", what, n, got, want)
	}
	if !same(whole(h), houseWas) || !same(whole(list), desksWere) {
		t.Errorf("%s, %d: an argument is changed", what, n)
	}
	newMemory(t, what, got, h, list, impl.DeskNew(h, n, list))
	checkDeskWorld(t, what, got, len(want.Hall.Rec.Recorders) > 0)
}

func TestDeskNew(t *testing.T) {
	lists := map[string][]desk{
		"no desks": nil, "one": desksOf(""), "three": deskThree(), "four": desksOf("a", "b", "c", "d"),
		"faults": {annsDesk("", "end\n")}, "odd ones": {annsDesk("", deskBlock("web"))}, "no rights": {{Who: "eve", Door: "d1", Text: deskText("web dev 1,2,0,1,,")}},
	}
	for _, n := range []int{math.MinInt, -1000, -2, -1, 0, 1, 2, 3, 4, 5, 6, 7, 12, 1000000, math.MaxInt} {
		for what, list := range lists {
			for whose, h := range map[string]house{"a house": hallHouse(), "a house of nothing": {}} {
				want := deskWorld{}
				if n >= 1 && n <= 5 {
					want = deskWorld{Hall: hallWorld{House: h, Rec: impl.RecWorld{Recorders: recRow(n, n)}}, Desks: list}
				}
				checkDeskNew(t, whose+", "+what, h, n, list, want)
			}
			for whose, h := range hallBadHouses() {
				checkDeskNew(t, whose+", "+what, h, n, list, deskWorld{})
			}
		}
		for what, list := range deskNotApart() {
			checkDeskNew(t, what, hallHouse(), n, list, deskWorld{})
		}
	}
}

func TestDeskWorldOk(t *testing.T) {
	checkDeskWorld(t, "a port", deskPort(), true)
	checkDeskWorld(t, "a port without desks", deskIn(hallPort()), true)
	checkDeskWorld(t, "four", deskIn(hallQuay(), desksOf("a", "b", "c", "d")...), true)
	checkDeskWorld(t, "a text with a fault", deskIn(hallQuay(), annsDesk("", "end\n")), true)
	checkDeskWorld(t, "the last Now", deskWith(deskPort(), hallAt(math.MaxInt)), true)
	for what, w := range deskNotOk() {
		checkDeskWorld(t, what, w, false)
	}
}

// deskIsDoneBy is the document's sentence on when all is as the sheets say.
func deskIsDoneBy(w deskWorld) bool {
	if !deskWorldIsOk(w) || !hallIsDoneBy(w.Hall) {
		return false
	}
	b := impl.HallView(w.Hall, recUps(w.Hall.Rec)[0])
	return all(w.Desks, func(d desk) bool {
		return deskReadBy(w.Hall.House, b, d).has() && all(b.Gate.Purses, func(p impl.GatePurse) bool { return p.Door != d.Door })
	})
}

func checkDeskDone(t *testing.T, what string, w deskWorld, want bool) {
	t.Helper()
	checkSaysOf(t, what, w, impl.DeskDone, deskIsDoneBy, want)
}

func TestDeskDone(t *testing.T) {
	ready := hallWebReady()
	hall := hallKnowing(ready, ready, ready)
	web := func(text string) desk { return atDoor("d3", annsDesk("web", text)) }
	asIs, none := web(deskText("web dev 1,2,0,1,,")), atDoor("d4", annsDesk("n", ""))
	for _, c := range []struct {
		what string
		list []desk
		done bool
	}{
		{"no desks", nil, true},
		{"as it is", []desk{asIs}, true},
		{"as it is, and nothing", []desk{asIs, none}, true},
		{"nothing, and as it is", []desk{none, asIs}, true},
		{"nothing that is its own", []desk{none}, true},
		{"not wanted", []desk{web("")}, false},
		{"wanted otherwise", []desk{web(deskText("web dev 1,3,0,1,,"))}, false},
		{"wanted in another team", []desk{web(deskText("web lab 1,2,0,1,,"))}, false},
		{"one more", []desk{web(deskText("web dev 1,2,0,1,,", "webs dev 1,2,0,1,,"))}, false},
		{"one that may not be", []desk{{Who: "eve", Door: "d3", Prefix: "web"}}, false},
		{"the first has not", []desk{web(""), none}, false},
		{"the second has not", []desk{none, web("")}, false},
		{"the last of four has not", append(desksOf("a", "b", "c"), atDoor("d4", web(""))), false},
		{"a sheet with a fault", []desk{web("end\n")}, false},
		{"nothing but a fault", []desk{none, web(deskText("web dev 1,2,0,1,,") + "end\n")}, false},
		{"an odd one beside it", []desk{web(deskText("web dev 1,2,0,1,,") + deskBlock("web-1"))}, true},
		{"odd", []desk{web(deskBlock("web"))}, true},
	} {
		checkDeskDone(t, c.what, deskIn(hall, c.list...), c.done)
		busy := hallWith(hall, hallWishes(2, "time 1"))
		checkDeskDone(t, c.what+", and something is wished for", deskIn(busy, c.list...), false)
		checkDeskDone(t, c.what+", and nobody is Up", deskIn(hallWith(hall, hallOne(0, recIsDown), hallOne(1, recIsDown), hallOne(2, recIsDown)), c.list...), false)
	}
	for n := 1; n <= 5; n++ {
		checkDeskDone(t, "new", impl.DeskNew(hallHouse(), n, nil), true)
		checkDeskDone(t, "new, and nothing is wanted", impl.DeskNew(hallHouse(), n, desksOf("a", "b")), true)
		checkDeskDone(t, "new, and something is", impl.DeskNew(hallHouse(), n, deskThree()), false)
	}
	for what, w := range deskNotOk() {
		checkDeskDone(t, what, w, false)
	}
	for what, list := range deskNotApart() {
		checkDeskDone(t, what+", all done", deskIn(hallKnowing(nil), list...), false)
	}
}

// Where the hall is not done, nothing is, though the desks have what they want.
func TestDeskDoneHall(t *testing.T) {
	list := deskThree()[:2]
	list[0].Door = "d4"
	for at := range hallWebReady() {
		row := hallWebReady()[:at]
		checkDeskDone(t, fmt.Sprint(at, " texts"), deskIn(hallKnowing(row, row), list...), false)
		checkDeskDone(t, fmt.Sprint(at, " texts, and no desk"), deskIn(hallKnowing(row, row)), at < 2)
	}
	row := inOneRow(hallWebReady(), "slip 2 d1 3 web:4 ann end web 0")
	gone := append(hallSwept(), "sweep 500001")
	checkDeskDone(t, "ended", deskIn(hallKnowing(row), annsDesk("web", "")), false)
	checkDeskDone(t, "swept", deskIn(hallKnowing(gone), annsDesk("web", "")), true)
	checkDeskDone(t, "to be swept", deskIn(hallKnowing(hallSwept()), annsDesk("web", "")), false)
	checkDeskDone(t, "swept, and wanted", deskIn(hallKnowing(gone), annsDesk("web", deskText("web dev 1,2,0,1,,"))), false)
}

// A purse of one of the desks' doors is in the way; others are not.
func TestDeskDonePurses(t *testing.T) {
	for _, c := range []struct {
		doors texts
		done  bool
	}{{nil, true}, {texts{"d9"}, true}, {texts{"d1", "d4"}, true}, {texts{"d3"}, false}, {texts{"d2"}, false}, {texts{"d1", "d3", "d9"}, false}, {texts{"d2", "d3"}, false}} {
		row := inOneRow(hallWebReady(), "bound 1 ops copies 9", "bound 1 dev copies 9")
		for _, door := range c.doors {
			row = append(row, "draw 1 "+door+" dev copies 1")
		}
		list := []desk{atDoor("d3", annsDesk("web", deskText("web dev 1,2,0,1,,"))), atDoor("d2", annsDesk("n", ""))}
		checkDeskDone(t, fmt.Sprint("purses of ", c.doors), deskIn(hallKnowing(row, row), list...), c.done)
		slices.Reverse(list)
		checkDeskDone(t, fmt.Sprint("purses of ", c.doors, ", turned around"), deskIn(hallKnowing(row), list...), c.done)
	}
}

// The first that is Up is looked at, whatever others know that are not.
func TestDeskDoneWhoIsLookedAt(t *testing.T) {
	ready, raised := hallWebReady(), hallWebReady()[:1]
	purse := inOneRow(ready, "bound 1 dev copies 9", "draw 1 d3 dev copies 1")
	has, hasNot := atDoor("d3", annsDesk("web", deskText("web dev 1,2,0,1,,"))), atDoor("d3", annsDesk("web", ""))
	down := func(places ...int) []hallTurn {
		var turns []hallTurn
		for _, at := range places {
			turns = append(turns, hallOne(at, recIsDown))
		}
		return turns
	}
	for _, c := range []struct {
		what  string
		rows  []texts
		down  []int
		wants bool
		none  bool
	}{
		{"all know web", []texts{ready, ready, ready}, nil, true, false},
		{"the first is down, and does not know web", []texts{raised, ready, ready}, []int{0}, true, false},
		{"the first is down, and alone knows web", []texts{ready, raised, raised}, []int{0}, false, true},
		{"two are down", []texts{raised, raised, ready}, []int{0, 1}, true, false},
		{"two are down that know web", []texts{ready, ready, raised}, []int{0, 1}, false, true},
		{"the last is down", []texts{ready, ready, raised}, []int{2}, true, false},
		{"the last is down, and alone knows web", []texts{raised, raised, ready}, []int{2}, false, true},
		{"the first is down, and knows of a purse", []texts{purse, ready, ready}, []int{0}, true, false},
		{"the first is down, and does not know of a purse", []texts{ready, purse, purse}, []int{0}, false, false},
		{"they do not know the same", []texts{ready, raised, raised}, nil, false, false},
	} {
		w := hallWith(hallKnowing(c.rows...), down(c.down...)...)
		checkDeskDone(t, c.what+", and it is wanted", deskIn(w, has), c.wants)
		checkDeskDone(t, c.what+", and it is not wanted", deskIn(w, hasNot), c.none)
	}
}
