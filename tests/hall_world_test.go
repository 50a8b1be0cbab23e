package tests

import (
	"fmt"
	"math"
	"slices"
	"testing"

	"loop.example/wharfdesk/impl"
)

type (
	hallWorld = impl.HallWorld
	hallEvent = impl.HallEvent
	hallTurn  = func(w *impl.HallWorld)
)

// hallWorldIsOk is the document's sentence on when a world is ok.
func hallWorldIsOk(w hallWorld) bool {
	seen := map[string]bool{}
	return hallHouseIsOk(w.House) && recWorldIsOk(w.Rec) && w.Now >= 0 && len(w.Asked) <= 12 && all(w.Asked, func(a impl.HallAsked) bool {
		again := seen[a.Text]
		seen[a.Text] = true
		waits, heard := a.To == 0 && a.Said == impl.GateSaid{}, a.To > a.From && a.To <= w.Now
		return !again && hallIsForm(a.Text) && a.From >= 0 && a.From <= w.Now && (waits || heard)
	})
}

// hallKnowing is ok: in hallHouse, a recorder for each row of texts, which it knows; all are Up and quiet, and what anybody knows is fixed.
func hallKnowing(rows ...texts) hallWorld {
	w := hallWorld{House: hallHouse()}
	for at, row := range rows {
		disk := impl.RecDisk{Promise: 9, Known: len(row)}
		for _, text := range row {
			disk.Slots = append(disk.Slots, recSlot(9, text))
		}
		w.Rec.Recorders = append(w.Rec.Recorders, impl.Recorder{Number: at + 1, Of: len(rows), Up: true, Safe: disk, Disk: disk})
	}
	w.Rec.Fixed = recNotedAsRead(w.Rec)
	return spread(w)
}

// hallWith is a world, turned.
func hallWith(w hallWorld, turns ...hallTurn) hallWorld {
	w = spread(w)
	for _, turn := range turns {
		turn(&w)
	}
	return w
}

// hallOne turns the recorder at a place.
func hallOne(at int, turns ...recTurn) hallTurn {
	return func(w *hallWorld) { recOne(at, turns...)(&w.Rec) }
}

func hallAt(now int) hallTurn {
	return func(w *hallWorld) { w.Now = now }
}

func hallWaits(list ...impl.HallAsked) hallTurn {
	return func(w *hallWorld) { w.Asked = list }
}

// hallWishes puts texts behind the Wishes of the recorder at a place.
func hallWishes(at int, list ...string) hallTurn {
	return hallOne(at, func(r *impl.Recorder) { r.Wishes = append(r.Wishes, list...) })
}

func recIsDown(r *impl.Recorder) {
	r.Up = false
}

func recLeads(r *impl.Recorder) {
	r.Lead, r.Ballot = true, 9
}

// hallPort is ok, with something in each list: of three, the first leads, the second tries, and the third is not Up.
func hallPort() hallWorld {
	ready := hallWebReady()
	busy := func(r *impl.Recorder) {
		recLeads(r)
		r.Held = []impl.RecMessage{{Kind: impl.RecChosen, From: 1, To: 3, Ballot: 9, Index: 1, Text: ready[0]}, {Kind: impl.RecPromised, From: 1, To: 2, Ballot: 9, Slots: recSlots(recSlot(1, "a"))}}
		r.Wishes, r.Acks = texts{"time 3"}, []impl.RecAck{recAck(6, 1)}
		r.Disk.Slots = append(r.Disk.Slots, recSlot(9, "time 3"))
	}
	tries := func(r *impl.Recorder) {
		r.Trying, r.Ballot, r.Disk.Promise = true, 11, 11
		r.Yes, r.Best, r.Wishes = []int{2}, recSlots(recSlot(9, ready[0])), texts{"time 4"}
	}
	asked := []impl.HallAsked{
		{Text: hallWebMade, From: 3, To: 20, Said: impl.GateSaid{Version: 4}},
		{Text: "bound 7 dev copies 9", From: 25},
		{Text: "sea 3 tick", From: 5, To: 31, Said: impl.GateSaid{Version: 5}},
	}
	w := hallWith(hallKnowing(ready, ready[:3], ready[:4]), hallAt(40), hallWaits(asked...), hallOne(0, busy), hallOne(1, tries), hallOne(2, recIsDown))
	w.Rec.Flight = []impl.RecMessage{recBeat(1, 9, 5), {Kind: impl.RecPromised, From: 3, To: 2, Ballot: 11, Slots: recSlots(recSlot(9, ready[0]))}, recAccept(1, 9, 6, "time 3")}
	for i := range w.Rec.Flight {
		w.Rec.Flight[i].To = 2
	}
	return w
}

// hallNotOk are worlds that are not ok, each in but one thing.
func hallNotOk() map[string]hallWorld {
	worlds := map[string]hallWorld{
		"nothing":            {},
		"Now is below 0":     hallWith(hallPort(), hallAt(-1), hallWaits()),
		"one asked too many": hallWith(hallPort(), func(w *hallWorld) { w.Asked = hallTimes(13) }),
		"a text unread":      hallWith(hallPort(), func(w *hallWorld) { w.Asked[1].Text = "no entry" }),
		"a text twice":       hallWith(hallPort(), func(w *hallWorld) { w.Asked[1].Text = hallWebMade }),
		"asked too late":     hallWith(hallPort(), func(w *hallWorld) { w.Asked[1].From = 41 }),
		"heard too early":    hallWith(hallPort(), func(w *hallWorld) { w.Asked[0].To = 3 }),
		"said to nobody":     hallWith(hallPort(), func(w *hallWorld) { w.Asked[1].Said.Code = 3 }),
	}
	for what, h := range hallBadHouses() {
		worlds[what] = hallWith(hallPort(), func(w *hallWorld) { w.House = h })
	}
	for what, rec := range recNotOk() {
		worlds[what] = hallWith(hallPort(), func(w *hallWorld) { w.Rec = rec })
	}
	return worlds
}

// hallTimes are so many texts that are asked, one after the other.
func hallTimes(many int) []impl.HallAsked {
	var list []impl.HallAsked
	for i := range many {
		list = append(list, impl.HallAsked{Text: fmt.Sprint("time ", 100+i), From: i + 1})
	}
	return list
}

func checkWorld(t *testing.T, what string, w hallWorld, ok bool) {
	t.Helper()
	w = spread(w)
	before := whole(w)
	if got := impl.HallWorldOk(w); got != ok || hallWorldIsOk(w) != ok {
		t.Errorf("%s: ok: %v, read: %v", what, got, hallWorldIsOk(w))
	}
	if !same(whole(w), before) {
		t.Errorf("%s: the world is changed", what)
	}
}

func TestHallNew(t *testing.T) {
	for _, n := range []int{math.MinInt, -1000, -2, -1, 0, 1, 2, 3, 4, 5, 6, 7, 12, 1000000, math.MaxInt} {
		for what, h := range map[string]house{"a house": hallHouse(), "a house of nothing": {}, "as many grants as may be": {Grants: hallGrants(24)}} {
			h = spread(h)
			before := whole(h)
			want := hallWorld{}
			if n >= 1 && n <= 5 {
				want = hallWorld{House: h, Rec: impl.RecWorld{Recorders: recRow(n, n)}}
			}
			got := impl.HallNew(h, n)
			if !same(got, want) {
				t.Errorf("%s, %d: %+v", what, n, got)
			}
			checkWorld(t, fmt.Sprint(what, ", ", n), got, n >= 1 && n <= 5)
			if !same(whole(h), before) {
				t.Errorf("%s, %d: the house is changed", what, n)
			}
			newMemory(t, what, got, h, impl.HallNew(h, n))
		}
		for what, h := range hallBadHouses() {
			if got := impl.HallNew(h, n); !same(got, hallWorld{}) {
				t.Errorf("%s, %d: %+v", what, n, got)
			}
		}
	}
}

func TestHallWorldOk(t *testing.T) {
	checkWorld(t, "a port", hallPort(), true)
	checkWorld(t, "knowing", hallKnowing(hallWebReady(), nil), true)
	for what, w := range hallNotOk() {
		checkWorld(t, what, w, false)
	}
	for _, now := range []int{math.MinInt, -1000, -2, -1, 0, 1, 2, 1000000, 1000001, math.MaxInt} {
		checkWorld(t, fmt.Sprint("Now ", now), hallWith(hallPort(), hallWaits(), hallAt(now)), now >= 0)
	}
	for many, ok := range map[int]bool{0: true, 1: true, 11: true, 12: true, 13: false, 14: false, 100: false} {
		checkWorld(t, fmt.Sprint(many, " asked"), hallWith(hallPort(), hallAt(100), hallWaits(hallTimes(many)...)), ok)
	}
	// Nothing ties what was asked to what anybody knows.
	checkWorld(t, "asked of nobody", hallWith(impl.HallNew(hallHouse(), 1), hallAt(9), hallWaits(impl.HallAsked{Text: "time 1", From: 1, To: 9, Said: impl.GateSaid{Code: 99, Place: -1, Version: 1000001}})), true)
	checkWorld(t, "a world of nobody", hallWorld{House: hallHouse()}, false)
}

func TestHallWorldOkTexts(t *testing.T) {
	for text, ok := range map[string]bool{
		"time 1": true, "time 500000": true, "time 500001": true, "time 1000000": true, "act 5 web 3 1 * * *": true, "sweep 2": true, hallWebMade: true,
		"": false, "time 0": false, "time 1000001": false, "time": false, "time 1 ": false, "no entry": false, letters(160): false, letters(161): false,
	} {
		for at := range 3 {
			checkWorld(t, fmt.Sprintf("%q at %d", text, at), hallWith(hallPort(), func(w *hallWorld) {
				w.Asked[0].Text = "time 2"
				w.Asked[at].Text = text
			}), ok)
		}
	}
	list := hallTimes(12)
	for at := range list {
		for other := range list {
			twice := slices.Clone(list)
			twice[at].Text = twice[other].Text
			checkWorld(t, fmt.Sprintf("%d as %d", at, other), hallWith(hallPort(), hallAt(100), hallWaits(twice...)), at == other)
		}
	}
}

// When a text was asked, and heard, in a world of which Now is 40.
func TestHallWorldOkTimes(t *testing.T) {
	times := []int{math.MinInt, -2, -1, 0, 1, 2, 10, 11, 12, 38, 39, 40, 41, 42, math.MaxInt}
	sayings := []impl.GateSaid{{}, {Code: 3}, {Place: 1}, {Version: 7}, {Code: 99, Place: -4, Version: 1000001}}
	for _, from := range times {
		for _, to := range times {
			for _, said := range sayings {
				ok := from >= 0 && from <= 40 && (to == 0 && said == impl.GateSaid{} || to > from && to <= 40)
				for at := range 3 {
					checkWorld(t, fmt.Sprintf("at %d, from %d to %d, said %+v", at, from, to, said), hallWith(hallPort(), func(w *hallWorld) {
						w.Asked[at] = impl.HallAsked{Text: w.Asked[at].Text, From: from, To: to, Said: said}
					}), ok)
				}
			}
		}
	}
	last := math.MaxInt
	for _, c := range []struct {
		from, to int
		ok       bool
	}{{last, 0, true}, {last, last, false}, {last - 1, last, true}, {last, math.MinInt, false}, {last, -1, false}} {
		checkWorld(t, fmt.Sprintf("from %d to %d", c.from, c.to), hallWith(hallPort(), hallAt(last), hallWaits(impl.HallAsked{Text: "time 1", From: c.from, To: c.to})), c.ok)
	}
	checkWorld(t, "all at once", hallWith(hallPort(), hallAt(0), hallWaits(impl.HallAsked{Text: "time 1"}, impl.HallAsked{Text: "time 2"})), true)
}

// checkView says which books are to be seen at a recorder.
func checkView(t *testing.T, what string, w hallWorld, at int, want twoBooks) {
	t.Helper()
	w = spread(w)
	before := whole(w)
	got := impl.HallView(w, at)
	if !same(got, want) {
		t.Errorf("%s, at %d: %+v, not %+v", what, at, got, want)
	}
	if !same(whole(w), before) {
		t.Errorf("%s, at %d: the world is changed", what, at)
	}
	newMemory(t, what, got, w, impl.HallView(w, at))
}

func TestHallView(t *testing.T) {
	ready := hallWebReady()
	unread := texts{"", "no entry", "time 0", ready[0], ready[0]}
	rows := []texts{ready, nil, ready[:2], inOneRow(unread, ready, unread, ready), inOneRow(ready, "sea 9 sink b1")}
	w := hallKnowing(rows...)
	for at, row := range rows {
		want := hallStateBy(hallHouse(), row)
		checkView(t, "a row", w, at, want)
		checkView(t, "one that is not Up", hallWith(w, hallOne(at, recIsDown)), at, want)
		checkView(t, "one that leads", hallWith(w, hallOne(at, recLeads)), at, want)
	}
	checkView(t, "all", w, 0, hallWebBooks())
	checkView(t, "all, with others between", w, 3, hallWebBooks())
	checkView(t, "nothing", w, 1, impl.HallFirst(hallHouse()))
	// What is known on the Disk counts: neither what is not known, nor what is Safe, nor what is wished for or fixed.
	half := hallWith(w, hallOne(0, recKnows(2), func(r *impl.Recorder) { r.Wishes = texts{"time 1"} }))
	checkView(t, "two of five known", half, 0, hallStateBy(hallHouse(), ready[:2]))
	none := hallWith(w, hallOne(0, func(r *impl.Recorder) { r.Disk = impl.RecDisk{Promise: 9} }))
	checkView(t, "known on a Safe disk alone", none, 0, impl.HallFirst(hallHouse()))
	checkView(t, "no house", hallWith(w, func(w *hallWorld) { w.House = house{} }), 2, impl.HallState(house{}, ready[:2]))
	for _, at := range []int{math.MinInt, -1000, -5, -2, -1, 5, 6, 100, math.MaxInt} {
		checkView(t, "nobody there", w, at, twoBooks{})
	}
	for n := 1; n <= 5; n++ {
		fresh := impl.HallNew(hallHouse(), n)
		checkView(t, "a new world", fresh, n-1, impl.HallFirst(hallHouse()))
		checkView(t, "a new world, behind the last", fresh, n, twoBooks{})
	}
	for what, w := range hallNotOk() {
		for _, at := range []int{-1, 0, 1, 2, 3} {
			checkView(t, what, w, at, twoBooks{})
		}
	}
}
