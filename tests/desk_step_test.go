package tests

import (
	"fmt"
	"math"
	"slices"
	"strings"
	"testing"

	"loop.example/wharfdesk/impl"
)

// deskSteppedBy is the document's table of events, read a second time.
func deskSteppedBy(w deskWorld, e deskEvent) deskWorld {
	if !deskWorldIsOk(w) {
		return deskWorld{}
	}
	w.Desks = slices.Clone(w.Desks)
	if e.Kind == 1 {
		w.Hall = hallSteppedBy(w.Hall, e.Hall)
		return w
	}
	w.Hall.Now++
	if e.B < 0 || e.B >= len(w.Desks) {
		return w
	}
	switch isThere := e.A >= 0 && e.A < len(w.Hall.Rec.Recorders); {
	case e.Kind == 3:
		w.Desks[e.B].Text = e.Text
	case e.Kind == 2 && isThere && w.Hall.Rec.Recorders[e.A].Up:
		r := deskReadBy(w.Hall.House, impl.HallView(w.Hall, e.A), w.Desks[e.B])
		if next, is := r.next(hallNumberBy(w.Hall.Rec.Recorders[e.A])); is {
			w.Hall.Rec = recHappenedAsRead(w.Hall.Rec, impl.RecEvent{Kind: 7, A: e.A, Text: hallFormAsRead(next)})
		}
	}
	return w
}

// checkDeskStep says what an event makes of a world.
func checkDeskStep(t *testing.T, what string, w deskWorld, e deskEvent, want deskWorld) deskWorld {
	t.Helper()
	e = spread(e)
	before := whole(e)
	got := checkBecomes(t, what, w, impl.DeskWorldOk, deskWorldIsOk, func(w deskWorld) deskWorld { return impl.DeskStep(w, e) }, want)
	if !same(whole(e), before) {
		t.Errorf("%s: the event is changed", what)
	}
	newMemory(t, what, got, e)
	if w.Hall.Now < math.MaxInt && !same(deskSteppedBy(w, e), want) {
		t.Errorf("%s is read as\n%+v", what, deskSteppedBy(w, e))
	}
	return got
}

// deskHappens says that an event turns a world's hall so, which has one more Now, and nothing otherwise.
func deskHappens(t *testing.T, what string, w deskWorld, e deskEvent, turns ...hallTurn) deskWorld {
	t.Helper()
	want := deskWith(w, turns...)
	want.Hall.Now++
	return checkDeskStep(t, what, w, e, want)
}

// deskAll is an event in which all is said that some Kind looks at.
func deskAll(t *testing.T, kind, a, b int) deskEvent {
	t.Helper()
	hall := hallAsksOf(t, 1, "time 1")
	hall.B, hall.Door, hall.Ask = 1, "d1", by("ann", asksEnd("web", 0))
	return deskEvent{Kind: kind, A: a, B: b, Hall: hall, Text: deskText("web dev 1,9,0,1,,")}
}

func TestDeskStepOtherKinds(t *testing.T) {
	for _, kind := range []int{math.MinInt, -3, -2, -1, 0, 4, 5, 6, 7, 11, 12, 13, 14, 100, math.MaxInt} {
		for _, a := range []int{-1, 0, 1, 3} {
			for _, b := range []int{-1, 0, 2, 3} {
				e := deskAll(t, kind, a, b)
				deskHappens(t, fmt.Sprintf("Kind %d, %d, %d", kind, a, b), deskPort(), e)
				deskHappens(t, fmt.Sprintf("Kind %d, %d, %d, new", kind, a, b), impl.DeskNew(hallHouse(), 2, deskThree()), e)
			}
		}
	}
}

func TestDeskStepNotOk(t *testing.T) {
	for what, w := range deskNotOk() {
		for kind := -1; kind <= 4; kind++ {
			for at := range 2 {
				checkDeskStep(t, fmt.Sprintf("%s, Kind %d, at %d", what, kind, at), w, deskAll(t, kind, at, at), deskWorld{})
			}
		}
	}
}

// Kind 1: what HallStep does, once, the desks staying as they are.
func TestDeskStepOfHall(t *testing.T) {
	changed := map[int]int{}
	waits := hallWaits(impl.HallAsked{Text: "time 1", From: 1}, impl.HallAsked{Text: hallWebMade, From: 3})
	toDo := hallWith(hallKnowing(hallWebReady()[:2], hallWebReady()[:2]), hallAt(9), waits)
	for what, hall := range map[string]hallWorld{"a port": hallPort(), "a quay": hallQuay(), "something to do and to hear": toDo, "new": impl.HallNew(hallHouse(), 3)} {
		for _, list := range [][]desk{nil, deskThree(), desksOf("")} {
			w := deskIn(hall, list...)
			for kind := -1; kind <= 15; kind++ {
				for at := -1; at <= 3; at++ {
					for _, text := range []string{"time 1", "bound 7 dev copies 9"} {
						e := deskAll(t, impl.DeskHall, 2-at, at)
						e.Hall.Kind, e.Hall.A, e.Hall.B = kind, at, 1
						e.Hall.Entry, _ = impl.HallRead(text)
						next := impl.HallStep(hall, e.Hall)
						if next.Now != hall.Now+1 {
							t.Errorf("%s, Kind %d: Now is %d", what, kind, next.Now)
						}
						checkDeskStep(t, fmt.Sprintf("%s, Kind %d, at %d", what, kind, at), w, e, deskIn(next, list...))
						if next.Now = hall.Now; !same(next, hall) {
							changed[kind]++
						}
					}
				}
			}
		}
	}
	for _, kind := range []int{1, 2, 3, 4, 5, 6, 11, 12, 13, 14} {
		if changed[kind] == 0 {
			t.Errorf("the Kind %d changed nothing", kind)
		}
	}
}

// deskLooksAt is a look at a recorder from a desk.
func deskLooksAt(at, place int) deskEvent {
	return deskEvent{Kind: impl.DeskLooks, A: at, B: place}
}

// deskQuay is ok: of three, the first knows of a bound of dev, the second of web, too, and the third is not Up. The first desk wants web with three copies, the second something new in dev, the third nothing, and the fourth has a purse, and has what it wants.
func deskQuay() deskWorld {
	first := texts{"sea 1 raise b1", "bound 2 dev copies 9"}
	second := inOneRow(first, "draw 3 d1 dev copies 3", "draw 4 d4 dev copies 2", hallWebMade)
	w := hallWith(hallKnowing(first, second, second), hallAt(7), hallOne(2, recIsDown), hallWaits(hallTimes(3)...))
	return deskIn(w,
		desk{Who: "ann", Door: "d1", Prefix: "web", Text: deskText("web dev 1,3,0,1,,")},
		desk{Who: "ann", Door: "d2", Prefix: "n", Text: deskText("new dev 1,1,0,1,,")},
		desk{Who: "bob", Door: "d3", Prefix: "a"},
		desk{Who: "ann", Door: "d4", Prefix: "x"},
	)
}

func TestDeskLooks(t *testing.T) {
	for _, c := range []struct {
		what  string
		at    int
		place int
		form  string
	}{
		{"a draw ahead of making", 0, 0, "draw 500001 d1 dev copies 4"},
		{"a draw ahead of changing", 1, 0, "draw 500001 d1 dev copies 1"},
		{"another desk's draw", 0, 1, "draw 500001 d2 dev copies 2"},
		{"another desk's draw, elsewhere", 1, 1, "draw 500001 d2 dev copies 2"},
		{"nothing is wanted", 0, 2, ""},
		{"nothing is wanted, elsewhere", 1, 2, ""},
		{"a purse that it does not know of", 0, 3, ""},
		{"a purse to give back", 1, 3, "back 500001 d4 dev copies"},
	} {
		var turns []hallTurn
		if c.form != "" {
			turns = append(turns, hallWishes(c.at, c.form))
		}
		for _, e := range []deskEvent{deskLooksAt(c.at, c.place), deskAll(t, impl.DeskLooks, c.at, c.place)} {
			deskHappens(t, c.what, deskQuay(), e, turns...)
			// Who is down is not looked at.
			deskHappens(t, c.what+", down", deskWith(deskQuay(), hallOne(c.at, recIsDown)), e)
		}
	}
	for _, at := range []int{math.MinInt, -1000, -2, -1, 2, 3, 4, 5, 1000, math.MaxInt} {
		for place := range 4 {
			deskHappens(t, fmt.Sprintf("at %d from %d", at, place), deskQuay(), deskAll(t, impl.DeskLooks, at, place))
		}
	}
	for _, place := range []int{math.MinInt, -1000, -4, -1, 4, 5, 6, 1000, math.MaxInt} {
		for at := range 3 {
			deskHappens(t, fmt.Sprintf("at %d from %d", at, place), deskQuay(), deskAll(t, impl.DeskLooks, at, place))
		}
	}
	deskHappens(t, "no desks", deskIn(hallQuay()), deskLooksAt(0, 0))
	risen := deskWith(deskQuay(), hallOne(2, func(r *impl.Recorder) { r.Up = true }))
	deskHappens(t, "risen", risen, deskLooksAt(2, 0), hallWishes(2, "draw 500001 d1 dev copies 1"))
}

// A slip, of each verb.
func TestDeskLooksSlips(t *testing.T) {
	ready := hallWebReady()
	for _, c := range []struct {
		text string
		form string
	}{
		{deskText("web dev 1,2,0,1,,", "web-1 ops 1,1,0,1,,"), "slip 500001 d3 3 web-1:0 ann make web-1 ops fleet 1,1,0,1,,"},
		{deskText("web dev 2,3,0,1,,"), "slip 500001 d3 3 web:4 ann change web 4 2,3,0,1,,"},
		{deskText("web ops 1,2,0,1,,"), "slip 500001 d3 3 web:4 ann end web 4"},
		{"", "slip 500001 d3 3 web:4 ann end web 4"},
		{deskText("web dev 1,2,0,1,,"), ""},
		{"service web\n", ""},
		{deskBlock("web"), ""},
	} {
		w := deskIn(hallKnowing(ready[:1], ready), desk{Who: "bob", Door: "d1", Prefix: "a"}, atDoor("d3", annsDesk("web", c.text)))
		var turns []hallTurn
		if c.form != "" {
			turns = append(turns, hallWishes(1, c.form))
		}
		deskHappens(t, c.form, w, deskLooksAt(1, 1), turns...)
		deskHappens(t, c.form+", the other desk", w, deskLooksAt(1, 0))
	}
}

// What is brought in is wished for, and not waited for; a wish has no effect where RecWish has none.
func TestDeskLooksWishes(t *testing.T) {
	draw := "draw 500001 d1 dev copies 4"
	for many := 18; many <= 20; many++ {
		w := deskWith(deskQuay(), hallWishes(0, recManyWishes(many)...))
		var turns []hallTurn
		if many < 20 {
			turns = append(turns, hallWishes(0, draw))
		}
		deskHappens(t, fmt.Sprint(many, " wishes"), w, deskLooksAt(0, 0), turns...)
	}
	deskHappens(t, "wished for already", deskWith(deskQuay(), hallWishes(0, draw)), deskLooksAt(0, 0))
	deskHappens(t, "wished for elsewhere", deskWith(deskQuay(), hallWishes(1, draw)), deskLooksAt(0, 0), hallWishes(0, draw))
	for _, many := range []int{0, 1, 11, 12} {
		w := deskWith(deskQuay(), hallAt(40), hallWaits(hallTimes(many)...))
		deskHappens(t, fmt.Sprint(many, " are waited for"), w, deskLooksAt(0, 0), hallWishes(0, draw))
	}
	// What others see, and what is not known yet, does not count.
	half := deskWith(deskQuay(), hallOne(1, recKnows(2)))
	deskHappens(t, "two of five known", half, deskLooksAt(1, 0), hallWishes(1, draw))
	none := deskWith(deskQuay(), hallOne(1, recKnows(0)))
	deskHappens(t, "nothing known", none, deskLooksAt(1, 0), hallWishes(1, "slip 500001 d1 3 web:0 ann make web dev fleet 1,3,0,1,,"))
	two := deskHappens(t, "a second look", deskQuay(), deskLooksAt(0, 0), hallWishes(0, draw))
	deskHappens(t, "a third look", two, deskLooksAt(0, 1), hallWishes(0, "draw 500001 d2 dev copies 2"))
	deskHappens(t, "a look once more", two, deskLooksAt(0, 0))
}

func TestDeskLooksNumbers(t *testing.T) {
	quay := deskQuay()
	for at := range 2 {
		for place, form := range [][]string{{"draw N d1 dev copies 4", "draw N d2 dev copies 2", "", ""}, {"draw N d1 dev copies 1", "draw N d2 dev copies 2", "", "back N d4 dev copies"}}[at] {
			for _, c := range hallNumbers {
				known := recTexts(quay.Hall.Rec.Recorders[at].Disk.Slots)
				for _, row := range []texts{inOneRow(texts(known), c.more), inOneRow(c.more, texts(known))} {
					rows := []texts{known, known, known}
					rows[at] = row
					w := deskIn(hallKnowing(rows...), quay.Desks...)
					deskHappens(t, fmt.Sprintf("%s, at %d from %d", c.what, at, place), w, deskLooksAt(at, place), hallWishes(at, hallNumbered(form, c.number)...))
				}
				// What another one knows, and what is wished for or not known yet, has no number.
				other := deskWith(deskIn(hallKnowing(texts(known), inOneRow(texts(known), c.more)), quay.Desks...), hallOne(0, func(r *impl.Recorder) {
					for _, text := range c.more {
						r.Disk.Slots = append(r.Disk.Slots, recSlot(9, text))
					}
				}))
				deskHappens(t, c.what+", elsewhere", other, deskLooksAt(0, place), hallWishes(0, hallNumbered(form, 500001)...))
			}
		}
	}
}

func TestDeskTurns(t *testing.T) {
	sheets := []string{"", deskText("web dev 1,9,0,1,,"), "end\n", "\xff", strings.Repeat("#", 20001), deskQuay().Desks[1].Text}
	for _, text := range sheets {
		for _, place := range []int{math.MinInt, -1000, -1, 0, 1, 2, 3, 4, 5, 1000, math.MaxInt} {
			for _, at := range []int{-1, 0, 2, 3} {
				w := deskQuay()
				want := spread(w)
				want.Hall.Now++
				if place >= 0 && place < 4 {
					want.Desks[place].Text = text
				}
				e := deskAll(t, impl.DeskTurns, at, place)
				e.Text = text
				checkDeskStep(t, fmt.Sprintf("%.20q on %d", text, place), w, e, want)
			}
		}
		deskHappens(t, "no desks", deskIn(hallQuay()), deskEvent{Kind: impl.DeskTurns, Text: text})
	}
	// From then on the desk goes by it.
	turned := impl.DeskStep(deskQuay(), deskEvent{Kind: impl.DeskTurns, B: 0, Text: ""})
	deskHappens(t, "turned to nothing", turned, deskLooksAt(1, 0), hallWishes(1, "slip 500001 d1 3 web:4 ann end web 4"))
	deskHappens(t, "turned to nothing, elsewhere", turned, deskLooksAt(0, 0))
	turned = impl.DeskStep(deskQuay(), deskEvent{Kind: impl.DeskTurns, B: 2, Text: deskText("api dev 1,1,0,1,,")})
	turned.Desks[2].Who = "ann"
	deskHappens(t, "turned to something", turned, deskLooksAt(0, 2), hallWishes(0, "draw 500001 d3 dev copies 2"))
	turned = impl.DeskStep(turned, deskEvent{Kind: impl.DeskTurns, B: 2, Text: "end\n"})
	deskHappens(t, "turned to a fault", turned, deskLooksAt(0, 2))
}

// Now stays at the greatest int, as behind it no world would be ok.
func TestDeskStepLastNow(t *testing.T) {
	last := deskWith(deskQuay(), hallAt(math.MaxInt))
	for kind := 0; kind <= 4; kind++ {
		e := deskAll(t, kind, 0, 2)
		e.Text, e.Hall = "", hallEvent{Kind: impl.RecEvLose, A: 9}
		checkDeskStep(t, fmt.Sprint("Kind ", kind), last, e, last)
	}
	checkDeskStep(t, "a look", last, deskLooksAt(0, 0), deskWith(last, hallWishes(0, "draw 500001 d1 dev copies 4")))
}
