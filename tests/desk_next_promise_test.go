package tests

import (
	"slices"
	"strconv"
	"strings"
	"testing"

	"loop.example/wharfdesk/impl"
)

// deskForeign is all of the books that is not a desk's: what others have, what they may, and what bounds all.
type deskForeign struct {
	Objects  []impl.GateObject
	Purses   []impl.GatePurse
	Grants   []impl.GateGrant
	Given    int
	Tick     int
	Ledgers  []impl.GateLedger
	Services []impl.StewService
	Copies   []impl.StewCopy
	Berths   []impl.StewBerth
}

func deskForeignTo(d desk, b twoBooks) deskForeign {
	b = spread(b)
	of := deskForeign{Grants: b.Gate.Grants, Given: b.Gate.Given, Tick: b.Gate.Tick, Ledgers: b.Gate.Ledgers, Copies: b.Stew.Copies, Berths: b.Stew.Berths}
	of.Objects = slices.DeleteFunc(b.Gate.Objects, func(o impl.GateObject) bool { return strings.HasPrefix(o.Name, d.Prefix) })
	of.Services = slices.DeleteFunc(b.Stew.Services, func(s impl.StewService) bool { return strings.HasPrefix(s.Name, d.Prefix) })
	of.Purses = slices.DeleteFunc(b.Gate.Purses, func(p impl.GatePurse) bool { return p.Door == d.Door })
	for i := range of.Ledgers {
		of.Ledgers[i].Free = 0
	}
	return of
}

func checkNothingOfOthers(t *testing.T, promise string, d desk, e entry, b, next twoBooks) {
	t.Helper()
	if was, is := deskForeignTo(d, b), deskForeignTo(d, next); !same(was, is) {
		t.Errorf("promise %s: at %+v, by %s, there is %+v, and was %+v", promise, d, impl.HallForm(e), is, was)
	}
}

// checkPromise59 tells what is next, and the books that it leads to.
func checkPromise59(t *testing.T, h house, b twoBooks, d desk, number int) (entry, twoBooks) {
	t.Helper()
	e, is := impl.DeskNext(h, b, d, number)
	if is {
		next, said := impl.HallDo(h, b, e)
		if said.Code != 0 || same(next, b) {
			t.Errorf("promise 59: at %+v %s is next, which is told %+v", d, impl.HallForm(e), said)
		}
		checkNothingOfOthers(t, "59", d, e, b, next)
		return e, next
	}
	s, _ := impl.SheetParse(d.Text)
	for _, name := range deskNamesOf(b, s) {
		if _, code := impl.DeskTry(h, b, d, name, number); code == 0 && number >= 1 && number <= 1000000 {
			t.Errorf("promise 59: at %+v nothing is next, but there is %q", d, name)
		}
	}
	return e, b
}

func deskHasPurse(b twoBooks, d desk) bool {
	return slices.ContainsFunc(b.Gate.Purses, func(p impl.GatePurse) bool { return p.Door == d.Door })
}

// checkPromise60 is of a desk whose sheet has no fault, and of books that are ok.
func checkPromise60(t *testing.T, h house, b twoBooks, d desk) {
	t.Helper()
	has, waits := impl.DeskHas(h, b, d), impl.DeskWaits(h, b, d)
	_, is := impl.DeskNext(h, b, d, 1)
	odds := impl.DeskPlanOf(h, d).Odds
	inTheWay := slices.DeleteFunc(slices.Clone(waits), func(o deskOdd) bool { return slices.Contains(odds, o) })
	switch {
	case has && len(inTheWay) > 0:
		t.Errorf("promise 60: %+v has all, and waits for %+v", d, inTheWay)
	case has && is && !deskHasPurse(b, d):
		t.Errorf("promise 60: %+v has all, and something is next", d)
	case !has && len(inTheWay) == 0 && !is:
		t.Errorf("promise 60: %+v has not all, and does nothing", d)
	}
	if has && len(waits) != len(odds) {
		t.Errorf("%+v is odd, and is waited for %+v", odds, waits)
	}
}

// deskDoings count what desks do.
type deskDoings struct {
	kinds [9]int
	codes [10]int
	names int
	has   int
	// ends are of those who come to what their sheets say.
	ends int
}

// add checks all that is told of a desk, by the second reading.
func (n *deskDoings) add(t *testing.T, r deskReading, number int) {
	t.Helper()
	e, _ := r.next(number)
	n.kinds[e.Kind]++
	checkDeskNext(t, "made up", r, number, hallFormAsRead(e))
	checkDeskNames(t, "made up", r, r.names()...)
	n.names += len(r.names())
	waits := ""
	for _, odd := range r.waits() {
		waits += odd.Name + " " + strconv.Itoa(odd.Code) + " "
		n.codes[odd.Code]++
	}
	checkDeskWaits(t, "made up", r, waits)
	checkDeskHas(t, "made up", r, r.has())
	if r.has() {
		n.has++
	}
}

// deskSheetAsIs says what is in books, all of it or nearly.
func (d *dice) deskSheetAsIs(h house, b twoBooks) sheet {
	var blocks []sheetBlock
	for _, o := range b.Gate.Objects {
		lines := deskLinesOf(o)
		if d.roll(6) == 0 {
			d.deskTurnLine(h, lines)
		}
		if d.roll(8) > 0 {
			blocks = append(blocks, blockOf("service", o.Name, lines...))
		}
	}
	if d.roll(3) == 0 {
		blocks = append(blocks, blockOf("service", "a-new", d.deskLines(h)...))
	}
	return sheetInOrder(blocks)
}

// What desks do by made-up books, by a second reading, and what it comes to if they do it again and again.
func TestDeskNextMadeUp(t *testing.T) {
	t.Parallel()
	d := dice(470)
	var n deskDoings
	for i := range 300 {
		h := d.hallTown()
		b := d.hallBooksOf(h)
		of := d.deskOf(d.deskSheetFor(h, b))
		if i%2 == 0 {
			of = d.deskOf(d.deskSheetAsIs(h, b))
		}
		if i%3 > 0 {
			of.Door = pick(&d, "d3", "d4")
		}
		if d.roll(12) == 0 {
			d.hallSpoilBooks(&b)
		}
		r := deskReadBy(h, b, of)
		n.add(t, r, pick(&d, 1, 7, 1000000, 1+d.roll(1000000), d.hallNumberNear()))
		if r.ok {
			n.ends += deskToTheEnd(t, h, b, of)
		}
		if t.Failed() {
			t.Fatalf("desk %d: %+v by %+v", i, of, b)
		}
	}
	if n.kinds[0] < 80 || n.kinds[impl.HallSlip] < 50 || n.kinds[impl.HallDraw] < 15 || n.kinds[impl.HallBack] < 30 || n.has < 15 || n.ends < 20 || n.names < 1000 {
		t.Errorf("too few made-up cases: %+v", n)
	}
	for _, code := range []int{1, 2, 3, 4, 6, 7, 8} {
		if n.codes[code] < 10 {
			t.Errorf("the code %d was told %d times", code, n.codes[code])
		}
	}
}

// deskToTheEnd brings in what is next until nothing is; it tells 1, if the desk has what its sheet says then.
func deskToTheEnd(t *testing.T, h house, b twoBooks, d desk) int {
	t.Helper()
	for number := 1; ; number++ {
		checkPromise60(t, h, b, d)
		e, next := checkPromise59(t, h, b, d, number)
		if e.Kind == 0 {
			break
		}
		// Each name is done once, and each ledger drawn from once for it; what is too much goes back once.
		if number > 15*13+24 {
			t.Fatalf("%+v comes to no end", d)
		}
		b = next
	}
	if !impl.DeskHas(h, b, d) {
		return 0
	}
	if deskHasPurse(b, d) {
		t.Errorf("%+v has all, and a purse: %+v", d, b.Gate.Purses)
	}
	return 1
}

// deskTown is a house, desks there that are apart, and books, older and newer ones, that entries led to one after the other: those of the desks, of others, and those that come of themselves.
type deskTown struct {
	h     house
	desks []desk
	books []twoBooks
}

func (d *dice) deskTownOf(many int) deskTown {
	town := deskTown{h: d.hallTown()}
	prefixes := pick(d, texts{"a", "w"}, texts{"a", "b"}, texts{"w", "x"}, texts{"a-", "ab"}, texts{"w-", "we"}, texts{"n", "w"}, texts{"w", "a"})
	for i, prefix := range prefixes {
		town.desks = append(town.desks, desk{Who: pick(d, "ann", "ann", "ann", "bob"), Door: "d" + strconv.Itoa(1+i), Prefix: prefix})
	}
	b := impl.HallFirst(town.h)
	bring := func(e entry) bool {
		next, said := impl.HallDo(town.h, b, e)
		if said.Code == 0 {
			b = next
			town.books = append(town.books, b)
		}
		return said.Code == 0
	}
	bring(entry{Kind: impl.HallSea, Number: 1, Sea: stewRaiseOf("b1", false)})
	for i, team := range town.h.Teams {
		if d.roll(2) == 0 && i < 9 {
			bring(entry{Kind: impl.HallBound, Number: 1, Team: team.Name, Resource: "copies", Amount: 3 + d.roll(20)})
		}
	}
	for number := 2; len(town.books) < many && number < 4*many; number++ {
		of := &town.desks[d.roll(2)]
		if of.Text == "" || d.roll(10) == 0 {
			of.Text = sheetTextAsRead(d.deskSheetFor(town.h, b))
		}
		view := town.books[len(town.books)-1-d.roll(min(len(town.books), pick(d, 1, 1, 2, 6)))]
		e, is := impl.DeskNext(town.h, view, *of, number)
		if !is || d.roll(3) == 0 {
			e = d.hallLivelyEntry(town.h, b)
		}
		if d.roll(12) == 0 {
			e = entry{Kind: impl.HallTime, Number: number}
		}
		bring(e)
	}
	return town
}

// deskLateCodes are what may be told of an entry of a desk that saw older books.
func deskLateCodes(kind int) []int {
	switch kind {
	case impl.HallBack:
		return []int{0, 2}
	case impl.HallDraw:
		return []int{0, 3, 4}
	}
	return []int{0, 10, 11, 12, 14}
}

// deskSees is what a desk sees of its names.
type deskSees struct {
	Names texts
	Asks  []ask
}

func deskSeesOf(h house, b twoBooks, d desk) deskSees {
	sees := deskSees{Names: impl.DeskNames(h, b, d)}
	for _, name := range sees.Names {
		a, _ := impl.DeskAskOf(h, b, d, name)
		sees.Asks = append(sees.Asks, a)
	}
	return sees
}

// Promises 59 to 62: desks that look at older books than those that what they bring in comes to.
func TestDeskPromises59To62(t *testing.T) {
	t.Parallel()
	d := dice(6162)
	var codes [9][16]int
	done := [3]int{}
	for range 60 {
		town := d.deskTownOf(30)
		for range 40 {
			at := d.roll(len(town.books))
			seen, b := town.books[max(0, at-d.roll(pick(&d, 1, 4, 20)))], town.books[at]
			k := d.roll(2)
			of, other := town.desks[k], town.desks[1-k]
			if d.roll(2) == 0 {
				of.Text = sheetTextAsRead(d.deskSheetFor(town.h, seen))
			}
			checkPromise60(t, town.h, seen, of)
			e, _ := checkPromise59(t, town.h, seen, of, 1+d.roll(1000000))
			if e.Kind == 0 {
				continue
			}
			next, said := impl.HallDo(town.h, b, e)
			codes[e.Kind][said.Code]++
			if !slices.Contains(deskLateCodes(e.Kind), said.Code) {
				t.Errorf("promise 61: %s is told %+v", impl.HallForm(e), said)
			}
			if said.Code != 0 {
				next = b
			}
			checkNothingOfOthers(t, "61", of, e, b, next)
			if was, is := deskSeesOf(town.h, b, other), deskSeesOf(town.h, next, other); !same(was, is) {
				t.Errorf("promise 62: by %s, %+v sees %+v, and saw %+v", impl.HallForm(e), other, is, was)
			}
			if sees := deskSeesOf(town.h, b, other); len(sees.Names) > 0 {
				done[min(2, len(sees.Names))]++
			}
		}
		if t.Failed() {
			t.FailNow()
		}
	}
	for kind, least := range map[int]map[int]int{impl.HallSlip: {0: 200, 12: 50, 10: 5}, impl.HallDraw: {0: 100, 3: 5}, impl.HallBack: {0: 50, 2: 10}} {
		for code, many := range least {
			if codes[kind][code] < many {
				t.Errorf("Kind %d: the Code %d was told %d times", kind, code, codes[kind][code])
			}
		}
	}
	if done[1] < 50 || done[2] < 300 {
		t.Errorf("of the other desk there was something to see %v times", done)
	}
}

// Promise 61 at its ends: what is told where what was seen is there no more.
func TestDeskPromise61Ends(t *testing.T) {
	h := hallHouse()
	lessFree := ofGate(func(g *impl.GateBook) { g.Ledgers[0].Most, g.Ledgers[0].Free = 29, 5 })
	noPurse := ofGate(func(g *impl.GateBook) { g.Purses = g.Purses[1:] })
	lessDrawn := ofGate(func(g *impl.GateBook) { g.Purses[0].Amount = 3 })
	na := annsDesk("n", deskText("na dev 1,3,1,1,,", "no ops 1,2,1,1,,"))
	six, web := atDoor("d3", annsDesk("n", deskText("new dev 1,5,1,1,,"))), atDoor("d3", annsDesk("web", ""))
	naMade, sixDrawn, webEnded := "slip 7 d1 4 na:0 ann make na dev fleet 1,3,1,1,,", "draw 7 d3 dev copies 6", "slip 7 d3 4 web:13 ann end web 13"
	as := func(turns ...booksTurn) twoBooks { return hallTurned(turns...) }
	for _, c := range []struct {
		what string
		desk desk
		form string
		code int
		seen twoBooks
		then twoBooks
	}{
		{"a purse that is gone", annsDesk("x", ""), "back 7 d1 dev copies", 2, as(), as(noPurse, hallAllFree)},
		{"less is free", six, sixDrawn, 3, as(), as(lessFree)},
		{"a purse too many", six, sixDrawn, 4, as(deskPurses(23)), as(deskPurses(24))},
		{"a purse has less", na, naMade, 10, as(), as(lessDrawn, hallAllFree)},
		{"no purse", na, naMade, 10, as(), as(noPurse, hallAllFree)},
		{"no room for an object", na, naMade, 11, as(hallHeap(39)), as(hallHeap(40))},
		{"no versions left", web, webEnded, 11, as(gateAt(999999)), as(gateAt(1000000))},
		{"another version", web, webEnded, 12, as(), as(ofObject(hallWeb, func(o *impl.GateObject) { o.Version = 14 }))},
		{"other grants", web, webEnded, 12, as(), as(ofGate(func(g *impl.GateBook) { g.Given = 5 }))},
		{"a ninth service", na, naMade, 14, as(hallCrowd(7)), as(hallCrowd(8))},
		{"no changes of Stew left", web, webEnded, 14, as(stewAt(999999)), as(stewAt(1000000))},
	} {
		if !hallIsOk(h, c.seen) || !hallIsOk(h, c.then) {
			t.Fatalf("%s: the books are not ok", c.what)
		}
		checkDeskNext(t, c.what, deskReadBy(h, c.seen, c.desk), 7, c.form)
		e, _ := checkPromise59(t, h, c.seen, c.desk, 7)
		if next, said := impl.HallDo(h, c.then, e); said.Code != c.code || !same(next, c.then) {
			t.Errorf("%s: %s is told %+v, not %d", c.what, c.form, said, c.code)
		}
	}
}
