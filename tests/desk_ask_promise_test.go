package tests

import (
	"slices"
	"strings"
	"testing"

	"loop.example/wharfdesk/impl"
)

// deskLinesOf say an object as it is.
func deskLinesOf(o impl.GateObject) []sheetLine {
	lines := []sheetLine{said("team", o.Team), said("image", o.Values[0]), said("want", o.Values[1]), said("down", o.Values[2]), said("over", o.Values[3])}
	if o.Values[4] != "" {
		lines = append(lines, said("follow", o.Values[4], "0", o.Values[1]))
	}
	return lines
}

// deskTurnLine says one line of a service otherwise, mostly such that it still is wanted.
func (d *dice) deskTurnLine(h house, lines []sheetLine) {
	line := &lines[d.roll(len(lines))]
	switch line.Key {
	case "team":
		line.Words = texts{pick(d, h.Teams...).Name}
	case "follow":
		line.Words = texts{pick(d, "5", "20"), pick(d, "0", "0", "0", "0", "1"), d.number(0, 5)}
	case "want", "over":
		line.Words = texts{d.number(1, 10)}
	default:
		line.Words = texts{d.number(1, 5)}
	}
}

// deskSheetFor is a sheet that says what is in books, a part of it otherwise or not at all, and some that is not in them.
func (d *dice) deskSheetFor(h house, b twoBooks) sheet {
	blocks := d.deskSheet(h, 5).Blocks
	for _, name := range []string{"a-new", "new", "web-new"} {
		blocks = append(blocks, blockOf("service", name, d.deskLines(h)...))
	}
	for _, o := range b.Gate.Objects {
		if _, there := blockIn(sheetOf(blocks...), "service", o.Name); there || d.roll(5) == 0 {
			continue
		}
		lines := deskLinesOf(o)
		for d.roll(3) > 0 {
			d.deskTurnLine(h, lines)
		}
		blocks = append(blocks, blockOf("service", o.Name, lines...))
	}
	return sheetInOrder(blocks)
}

// deskNamesOf are all that a desk could look after, and some others.
func deskNamesOf(b twoBooks, s sheet) texts {
	list := texts{"", "ghost", "A", letters(17)}
	for _, o := range b.Gate.Objects {
		list = append(list, o.Name)
	}
	for _, block := range s.Blocks {
		list = append(list, block.Name)
	}
	slices.Sort(list)
	return slices.Compact(list)
}

// deskCount counts what was told of names.
type deskCount struct {
	codes [10]int
	kinds [9]int
	verbs [4]int
	lacks int
}

// add checks one name at a desk: what is asked, what lacks, and what would be brought in.
func (n *deskCount) add(t *testing.T, r deskReading, name string, number int) {
	t.Helper()
	a, _ := r.asks(name)
	checkDeskAsk(t, "made up", r, name, a)
	n.verbs[a.Verb]++
	if a.Verb != 0 {
		lacks := deskLacksBy(r.h, r.b, r.d.Door, a)
		checkLacks(t, "made up", r.h, r.b, r.d.Door, a, lacks...)
		if slices.ContainsFunc(lacks, func(lack int) bool { return lack > 0 }) {
			n.lacks++
		}
	}
	e, code := r.tries(name, number)
	checkTry(t, "made up", r, name, number, hallFormAsRead(e), code)
	n.codes[code]++
	n.kinds[e.Kind]++
	if code != 0 {
		return
	}
	if _, said := impl.HallDo(r.h, r.b, e); said.Code != 0 {
		t.Errorf("%+v is told, and then refused with %+v", e, said)
	}
}

// What is asked of names, what lacks for it, and what would be brought in, by a second reading, over made-up houses, books and desks.
func TestDeskTryMadeUp(t *testing.T) {
	t.Parallel()
	d := dice(460)
	var n deskCount
	for i := range 300 {
		h := d.hallTown()
		b := d.hallBooksOf(h)
		s := d.deskSheetFor(h, b)
		of := d.deskOf(s)
		if d.roll(12) == 0 {
			d.hallSpoilBooks(&b)
		}
		r := deskReadBy(h, b, of)
		all := deskNamesOf(b, s)
		if d.roll(8) > 0 {
			all = slices.DeleteFunc(all, func(name string) bool { return name == "" || !strings.HasPrefix(name, of.Prefix) })
		}
		for _, place := range d.order(len(all)) {
			if place < 10 {
				n.add(t, r, all[place], pick(&d, 1, 7, 1000000, 1+d.roll(1000000), d.hallNumberNear()))
			}
		}
		if t.Failed() {
			t.Fatalf("desk %d: %+v by %+v", i, of, b)
		}
	}
	for code, least := range []int{200, 25, 80, 30, 20, 300, 100, 15, 200, 200} {
		if n.codes[code] < least {
			t.Errorf("the code %d was told %d times", code, n.codes[code])
		}
	}
	if slices.Min(n.verbs[:]) < 100 || n.kinds[impl.HallSlip] < 120 || n.kinds[impl.HallDraw] < 30 || n.lacks < 100 {
		t.Errorf("too few made-up cases: %+v", n)
	}
}

// What any ask lacks, made up as at any door.
func TestDeskLacksMadeUp(t *testing.T) {
	t.Parallel()
	d := dice(461)
	lacks, nothing := 0, 0
	for i := range 2000 {
		h := d.hallTown()
		b := d.hallBooksOf(h)
		a, door := d.hallAskFor(h, b), pick(&d, "d1", "d2", "d3", "", "D")
		switch d.roll(12) {
		case 0:
			d.hallSpoilBooks(&b)
		case 1:
			*pick(&d, &a.Who, &a.Kind, &a.Name, &a.Team, &a.Hold, &a.To) = pick(&d, "", "fleet", "A", letters(17))
		case 2:
			*pick(&d, &a.Verb, &a.Seen, &a.Number) = d.roll(9) - 1
		}
		want := deskLacksBy(h, b, door, a)
		checkLacks(t, "made up", h, b, door, a, want...)
		if t.Failed() {
			t.Fatalf("ask %d: %+v by %+v", i, a, b)
		}
		if slices.ContainsFunc(want, func(lack int) bool { return lack > 0 }) {
			lacks++
		}
		if !hallIsOk(h, b) || !askIsOk(hallLawOf(h.Teams), a) {
			nothing++
		}
	}
	if lacks < 250 || nothing < 200 {
		t.Errorf("too few made-up cases: %d lack something, of %d nothing is told", lacks, nothing)
	}
}

// deskBusy brings in what a desk tries, name by name, until there is nothing with the code 0; it tells the books that this leads to.
func deskBusy(t *testing.T, h house, b twoBooks, of desk, all texts) twoBooks {
	t.Helper()
	for round := 0; ; round++ {
		before := b
		for _, name := range all {
			e, code := impl.DeskTry(h, b, of, name, 1+round)
			if code != 0 {
				continue
			}
			next, said := impl.HallDo(h, b, e)
			if said.Code != 0 || same(next, b) {
				t.Fatalf("%+v is told, %+v comes of it: %+v", e, said, next)
			}
			b = next
		}
		if same(before, b) {
			return b
		}
		if round > 100 {
			t.Fatalf("%+v comes to no end: %+v", of, b)
		}
	}
}

// What a desk tries, brought in again and again, leads to what its sheet says, but for what is told to be in the way.
func TestDeskTryAgain(t *testing.T) {
	t.Parallel()
	d := dice(462)
	asIs, inTheWay := 0, 0
	for range 150 {
		h := d.hallTown()
		b := d.hallBooksOf(h)
		s := d.deskSheetFor(h, b)
		of := d.deskOf(s)
		all := deskNamesOf(b, s)
		behind := deskBusy(t, h, b, of, all)
		for _, name := range all {
			_, code := impl.DeskTry(h, behind, of, name, 1)
			if _, is := impl.DeskAskOf(h, behind, of, name); is != (code == impl.DeskPoor || code == impl.DeskRefused) {
				t.Errorf("%q: something is asked: %v, and there is %d", name, is, code)
			}
			if code == impl.DeskNothing && !deskIsAsSaid(h, behind, of, name) {
				t.Errorf("%q is not as %+v says: %+v", name, of, behind.Gate)
			}
			if code == impl.DeskNothing {
				asIs++
			} else {
				inTheWay++
			}
		}
	}
	if asIs < 300 || inTheWay < 300 {
		t.Errorf("%d names are as they are said, with %d something is in the way", asIs, inTheWay)
	}
}

// deskIsAsSaid says whether the object of a name is as a sheet says it, or not there, if it says nothing.
func deskIsAsSaid(h house, b twoBooks, of desk, name string) bool {
	wants := deskSaidOf(deskPlanBy(h, of), name).Wants
	o, there := deskObjectIn(b, name)
	if len(wants) == 0 || !there {
		return len(wants) == 0 && !there
	}
	return !o.Ending && o.Team == wants[0].Team && slices.Equal(o.Values[:5], wants[0].Values[:5])
}
