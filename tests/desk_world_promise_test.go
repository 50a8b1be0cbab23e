package tests

import (
	"slices"
	"strconv"
	"testing"

	"loop.example/wharfdesk/impl"
)

// deskBounds are texts by which teams are bound, and purses drawn.
func (d *dice) deskBounds(h house) texts {
	var row texts
	for _, team := range h.Teams {
		if resource := pick(d, "copies", "copies", "copies", "service"); d.roll(2) == 0 {
			row = append(row, "bound 1 "+team.Name+" "+resource+" "+d.number(4, 30))
			for range d.roll(3) {
				row = append(row, "draw 1 d"+d.number(1, 5)+" "+team.Name+" "+resource+" "+d.number(1, 4))
			}
		}
	}
	return row
}

// deskMadeUpWorld is ok; nothing need lead to it.
func (d *dice) deskMadeUpWorld() deskWorld {
	w := deskWorld{Hall: d.hallMadeUpWorld()}
	if d.roll(3) > 0 {
		row := inOneRow(d.deskBounds(w.Hall.House), d.hallRowOfTexts(w.Hall.House, d.roll(16)))
		w.Hall.Rec, w.Hall.Asked = d.hallRecKnowing(row), nil
	}
	w.Desks = d.deskCrew(w.Hall.House, d.roll(5))
	view := impl.HallView(w.Hall, d.roll(len(w.Hall.Rec.Recorders)))
	for i := range w.Desks {
		switch d.roll(3) {
		case 0:
			w.Desks[i].Text = sheetTextAsRead(d.deskSheetFor(w.Hall.House, view))
		case 1:
			w.Desks[i].Text = sheetTextAsRead(d.deskSheetAsIs(w.Hall.House, view))
		}
	}
	return w
}

// deskSpoilWorld changes one thing of a world, which may still be ok then.
func (d *dice) deskSpoilWorld(w *deskWorld) {
	if len(w.Desks) == 0 || d.roll(2) == 0 {
		d.hallSpoilWorld(&w.Hall)
		return
	}
	of := &w.Desks[d.roll(len(w.Desks))]
	other := pick(d, w.Desks...)
	switch d.roll(4) {
	case 0:
		*pick(d, &of.Who, &of.Door, &of.Prefix) = pick(d, "", "A", "a b", letters(16), letters(17))
	case 1:
		of.Door = other.Door
	case 2:
		of.Prefix = pick(d, other.Prefix, other.Prefix+"x", "")
	default:
		w.Desks = append(w.Desks, desksOf("y", "z", "yy", "zz")[d.roll(4):]...)
	}
}

// deskAnyEvent is one that may happen in a world, or may not.
func (d *dice) deskAnyEvent(w deskWorld) deskEvent {
	e := deskEvent{Kind: pick(d, 1, 2, 2, 2, 3), A: d.roll(len(w.Hall.Rec.Recorders)), B: d.roll(len(w.Desks) + 1), Hall: d.hallAnyEvent(w.Hall), Text: pick(d, "", "end\n", deskText("web "+pick(d, w.Hall.House.Teams...).Name+" 1,2,0,1,,"))}
	for range 6 {
		if e.Kind == impl.DeskLooks && same(impl.DeskStep(w, e).Hall.Rec, w.Hall.Rec) {
			e.A, e.B = d.roll(len(w.Hall.Rec.Recorders)), d.roll(len(w.Desks)+1)
		}
	}
	switch d.roll(16) {
	case 0:
		e.Kind = pick(d, -1, 0, 4, 5, 13)
	case 1:
		e.A = pick(d, -1, len(w.Hall.Rec.Recorders))
	case 2:
		e.B = pick(d, -1, len(w.Desks)+1)
	}
	return e
}

// What an event leads to in a made-up world, spoilt now and then, by the second reading; and all else that is told of it.
func TestDeskStepMadeUp(t *testing.T) {
	t.Parallel()
	d := dice(4901)
	var changed, kept [4]int
	var brought [9]int
	spoilt, done := 0, 0
	for i := range 1000 {
		w := d.deskMadeUpWorld()
		e := d.deskAnyEvent(w)
		if d.roll(8) == 0 {
			d.deskSpoilWorld(&w)
		}
		isOk := deskWorldIsOk(w)
		got := impl.DeskStep(w, e)
		if want := deskSteppedBy(w, e); !same(got, want) {
			t.Fatalf("world %d, %+v in %+v:\n%+v, not\n%+v", i, e, w, got, want)
		}
		for _, x := range []deskWorld{w, got} {
			if impl.DeskWorldOk(x) != isOk || impl.DeskDone(x) != deskIsDoneBy(x) {
				t.Fatalf("world %d: ok: %v, done: %v: %+v", i, impl.DeskWorldOk(x), impl.DeskDone(x), x)
			}
			if impl.DeskDone(x) {
				done++
			}
		}
		if !isOk {
			spoilt++
			continue
		}
		kind := max(0, e.Kind%4)
		got.Hall.Now = w.Hall.Now
		if same(got, w) {
			kept[kind]++
			continue
		}
		changed[kind]++
		if e.Kind == impl.DeskLooks {
			wishes := got.Hall.Rec.Recorders[e.A].Wishes
			of, _ := impl.HallRead(wishes[len(wishes)-1])
			brought[of.Kind]++
		}
	}
	if spoilt < 40 || done < 30 || changed[0] > 0 || changed[1] < 20 || changed[2] < 100 || changed[3] < 40 || slices.Min(kept[:]) < 20 {
		t.Errorf("too few made-up cases: %d not ok, %d done, changed: %v, kept: %v", spoilt, done, changed, kept)
	}
	if brought[impl.HallSlip] < 40 || brought[impl.HallDraw] < 12 || brought[impl.HallBack] < 40 {
		t.Errorf("too few made-up cases: brought in by looks: %v", brought)
	}
}

// What calm rounds lead to, by the second reading.
func TestDeskCalmMadeUp(t *testing.T) {
	t.Parallel()
	d := dice(4902)
	spoilt, ofDesks, ofHall, quiet := 0, 0, 0, 0
	for i := range 400 {
		w := d.deskMadeUpWorld()
		if d.roll(10) == 0 {
			d.deskSpoilWorld(&w)
		}
		rounds := d.roll(8) - 1
		got := impl.DeskCalm(w, rounds)
		if want := deskCalmedBy(w, rounds); !same(got, want) {
			t.Fatalf("world %d, %d rounds of %+v:\n%+v, not\n%+v", i, rounds, w, got, want)
		}
		switch {
		case impl.DeskWorldOk(got) != deskWorldIsOk(w):
			t.Fatalf("world %d: %+v became %+v", i, w, got)
		case !deskWorldIsOk(w):
			spoilt++
		case same(got.Hall.Rec, impl.RecCalm(w.Hall.Rec, rounds)):
			quiet++
		case same(got.Hall, impl.HallCalm(w.Hall, rounds)):
			ofHall++
		default:
			ofDesks++
		}
	}
	if spoilt < 15 || ofDesks < 50 || ofHall < 8 || quiet < 100 {
		t.Errorf("too few made-up cases: %d not ok, %d in which desks brought something in, %d in which something came of itself, %d in which nothing did", spoilt, ofDesks, ofHall, quiet)
	}
}

// Arguments stay as they are, and answers are new memory, whatever happens; asked twice, it is the same.
func TestDeskWorldMemory(t *testing.T) {
	t.Parallel()
	d := dice(4903)
	for range 150 {
		w := spread(d.deskMadeUpWorld())
		e, rounds, n := spread(d.deskAnyEvent(w)), d.roll(5), 1+d.roll(5)
		worldWas, eventWas := whole(w), whole(e)
		made, stepped, calmed := impl.DeskNew(w.Hall.House, n, w.Desks), impl.DeskStep(w, e), impl.DeskCalm(w, rounds)
		newMemory(t, "DeskNew", made, w)
		newMemory(t, "DeskStep", stepped, w, e)
		newMemory(t, "DeskCalm", calmed, w)
		newMemory(t, "all of them", [][]deskWorld{{made}, {stepped}, {calmed}})
		done, enough := impl.DeskDone(w), impl.DeskEnough(w.Hall.House, impl.HallView(w.Hall, 0), w.Desks)
		if !same(whole(w), worldWas) || !same(whole(e), eventWas) {
			t.Fatalf("the world or the event is changed: %+v, %+v", w, e)
		}
		if !same(impl.DeskStep(w, e), stepped) || !same(impl.DeskCalm(w, rounds), calmed) || impl.DeskDone(w) != done || impl.DeskEnough(w.Hall.House, impl.HallView(w.Hall, 0), w.Desks) != enough {
			t.Fatalf("twice, and another answer: %+v, %d rounds, %+v", e, rounds, w)
		}
	}
}

func (d *dice) deskQuestions(many int) []question[deskWorld] {
	var list []question[deskWorld]
	for i := range many {
		w := d.deskMadeUpWorld()
		e, rounds := d.deskAnyEvent(w), 1+d.roll(5)
		ask := func() deskWorld { return impl.DeskCalm(w, rounds) }
		if i%2 > 0 {
			ask = func() deskWorld { return impl.DeskStep(w, e) }
		}
		list = append(list, questionOf(ask))
	}
	return list
}

// An answer is the same each time, however desks come to their turns, and whoever else asks at that time.
func TestDeskWorldSideBySide(t *testing.T) {
	d := dice(4904)
	askSideBySide(t, d.deskQuestions(60))
}

func TestDeskWorldLeavesNobody(t *testing.T) {
	d := dice(4905)
	none := func() deskWorld { return impl.DeskStep(deskWorld{}, deskLooksAt(0, 0)) }
	noRounds := func() deskWorld { return impl.DeskCalm(deskWorld{}, 3) }
	long := func() deskWorld { return impl.DeskCalm(deskQuay(), 1000) }
	leavesNobody(t, append(d.deskQuestions(50), questionOf(none), questionOf(noRounds), questionOf(long)))
}

// Promise 64: over made-up worlds, and over ones that events have led to.
func TestDeskCalmInTwo(t *testing.T) {
	t.Parallel()
	d := dice(6401)
	most, moved := 0, 0
	for i := range 120 {
		w := d.deskMadeUpWorld()
		if i%2 == 0 {
			h := d.hallTown()
			w = d.deskLed(t, h, 1+d.roll(5), d.deskCrew(h, d.roll(5)), d.roll(150), d.hallWeather()).world
		}
		a, b := d.roll(14), d.roll(14)
		if i%30 == 0 {
			a = d.roll(1001)
			b = 1000 - a
			most++
		}
		half, want := impl.DeskCalm(w, a), impl.DeskCalm(w, a+b)
		if got := impl.DeskCalm(half, b); !same(got, want) {
			t.Fatalf("world %d: %d and %d rounds: %+v, not %+v", i, a, b, got, want)
		}
		if !same(impl.DeskCalm(half, 0), half) || !same(impl.DeskCalm(w, 0), w) || !impl.DeskWorldOk(half) || !impl.DeskWorldOk(want) {
			t.Fatalf("world %d: no rounds change it, or it is not ok: %+v", i, w)
		}
		if a > 0 && b > 0 && !same(impl.HallFixed(want.Hall), impl.HallFixed(w.Hall)) {
			moved++
		}
	}
	if most < 4 || moved < 30 {
		t.Errorf("too few made-up cases: %d with DeskMaxCalm rounds, %d in which something came to be fixed", most, moved)
	}
}

// Much on every desk: nothing is asked of a desk again as long as nobody knows more than before, and what comes of it is the same.
func TestDeskCalmLaden(t *testing.T) {
	t.Parallel()
	var list []desk
	for i, prefix := range []string{"a", "b", "c", "d"} {
		text := ""
		for k := range 56 {
			text += deskText(prefix + strconv.Itoa(k) + " dev 1,2,0,1,,")
		}
		list = append(list, desk{Who: "ann", Door: "d" + strconv.Itoa(1+i), Prefix: prefix, Text: text})
	}
	w := impl.DeskNew(hallHouse(), 3, list)
	for _, text := range []string{"sea 1 raise b1", "bound 2 dev copies 40"} {
		w = impl.DeskStep(w, deskEvent{Kind: impl.DeskHall, Hall: hallAsksOf(t, 0, text)})
	}
	w = impl.DeskCalm(w, 1000)
	b := impl.HallView(w.Hall, 2)
	if !impl.HallDone(w.Hall) || impl.DeskDone(w) || len(b.Gate.Objects) != 8 || len(b.Stew.Copies) != 16 || !same(impl.DeskCalm(w, 0), w) {
		t.Errorf("%q", impl.HallFixed(w.Hall))
	}
	for _, of := range list {
		for _, odd := range impl.DeskWaits(w.Hall.House, b, of) {
			if odd.Code != impl.DeskRefused {
				t.Errorf("%+v", odd)
			}
		}
	}
}
