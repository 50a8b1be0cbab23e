package tests

import (
	"math"
	"slices"
	"strconv"
	"strings"
	"testing"

	"loop.example/wharfdesk/impl"
)

// tries is the document's sentence on what a desk would bring in for a name.
func (r deskReading) tries(name string, number int) (entry, int) {
	if !r.looksAfter(name) {
		return entry{}, 9
	}
	if said := deskSaidOf(r.plan, name); len(said.Odds) > 0 {
		return entry{}, said.Odds[0].Code
	}
	if o, _ := deskObjectIn(r.b, name); o.Ending {
		return entry{}, 6
	}
	a, is := r.asks(name)
	if !is {
		return entry{}, 5
	}
	e, said := hallSlipBy(r.h, r.b, number, r.d.Door, a)
	if said.Code != 0 {
		return entry{}, 8
	}
	lacks := deskLacksBy(r.h, r.b, r.d.Door, a)
	for i := len(lacks) - 1; i >= 0; i-- {
		ledger := r.b.Gate.Ledgers[i]
		if lacks[i] > 0 {
			e = entry{Kind: 2, Number: number, Door: r.d.Door, Team: ledger.Team, Resource: ledger.Resource, Amount: lacks[i]}
		}
	}
	for i, ledger := range r.b.Gate.Ledgers {
		if lacks[i] > ledger.Free {
			return entry{}, 7
		}
	}
	if _, said := hallDoneBy(r.h, r.b, e); said.Code != 0 {
		return entry{}, 8
	}
	return e, 0
}

// checkTry says what a desk would bring in for a name, by its form, or what is with it; that it is new, and that no argument is changed.
func checkTry(t *testing.T, what string, r deskReading, name string, number int, form string, code int) {
	t.Helper()
	h, b := spread(r.h), spread(r.b)
	houseWas, booksWere := whole(h), whole(b)
	got, told := impl.DeskTry(h, b, r.d, name, number)
	if told != code || impl.HallForm(got) != form || code != 0 && !same(got, entry{}) {
		t.Errorf("%s: for %q there is %d and %+v, not %d and %q", what, name, told, got, code, form)
	}
	if read, isRead := r.tries(name, number); !same(read, got) || isRead != code {
		t.Errorf("%s: for %q is read that there is %d and %+v, not %d and %q", what, name, isRead, read, code, form)
	}
	if !same(whole(h), houseWas) || !same(whole(b), booksWere) {
		t.Errorf("%s: an argument is changed", what)
	}
	again, _ := impl.DeskTry(h, b, r.d, name, number)
	newMemory(t, what, got, h, b, again)
}

// deskTryCase is a name at a desk of hallBooks as turned: with the number 7 there is an entry of this form, or a code.
type deskTryCase struct {
	what string
	desk desk
	name string
	form string
	code int
	with []booksTurn
}

func deskBrings(what string, d desk, name, form string, with ...booksTurn) deskTryCase {
	return deskTryCase{what: what, desk: d, name: name, form: form, with: with}
}

func deskTold(what string, code int, d desk, name string, with ...booksTurn) deskTryCase {
	return deskTryCase{what: what, desk: d, name: name, code: code, with: with}
}

func checkTries(t *testing.T, list []deskTryCase) {
	t.Helper()
	for _, c := range list {
		b := hallTurned(c.with...)
		if !hallIsOk(hallHouse(), b) {
			t.Errorf("%s: the books are not ok: %+v", c.what, b)
		}
		checkTry(t, c.what, deskReadBy(hallHouse(), b, c.desk), c.name, 7, c.form, c.code)
	}
}

func atDoor(door string, d desk) desk {
	d.Door = door
	return d
}

func asBob(d desk) desk {
	d.Who = "bob"
	return d
}

// What d1 has: 4 copies of dev, with 6 free; no services of lab, with 2 free; 3 copies of ops, with 2 free. d2 has 2 copies of dev.
func TestDeskTry(t *testing.T) {
	makes := func(service string) desk { return annsDesk("", deskText("new "+service)) }
	api := func(values string) desk { return annsDesk("", deskText("api dev "+values)) }
	checkTries(t, []deskTryCase{
		deskBrings("to make, with a purse", makes("dev 1,2,1,1,,"), "new", "slip 7 d1 4 new:0 ann make new dev fleet 1,2,1,1,,"),
		deskBrings("to make, with all of a purse", makes("dev 1,3,1,1,,"), "new", "slip 7 d1 4 new:0 ann make new dev fleet 1,3,1,1,,"),
		deskBrings("to make, more than a purse", makes("dev 1,4,1,1,,"), "new", "draw 7 d1 dev copies 1"),
		deskBrings("to make, as much as is free", makes("dev 1,9,1,1,,"), "new", "draw 7 d1 dev copies 6"),
		deskTold("to make, one more than is free", impl.DeskPoor, makes("dev 1,10,1,1,,"), "new"),
		deskBrings("to make, without a purse", atDoor("d3", makes("dev 1,2,1,1,,")), "new", "draw 7 d3 dev copies 3"),
		deskBrings("to make, without a purse, all that is free", atDoor("d3", makes("dev 1,5,1,1,,")), "new", "draw 7 d3 dev copies 6"),
		deskTold("to make, without a purse, one more", impl.DeskPoor, atDoor("d3", makes("dev 1,6,1,1,,")), "new"),
		deskBrings("to make what follows", makes("dev 9,3,2,1,20,"), "new", "slip 7 d1 4 new:0 ann make new dev fleet 9,3,2,1,20,"),
		deskBrings("to make, the second ledger lacks", makes("lab 1,2,1,1,,"), "new", "draw 7 d1 lab service 1"),
		deskBrings("to make, both lack", makes("lab 1,4,1,1,,"), "new", "draw 7 d1 dev copies 1"),
		deskTold("to make, the second is poor", impl.DeskPoor, makes("lab 1,4,1,1,,"), "new", deskLabAt(2)),
		deskTold("to make, the second alone lacks, and is poor", impl.DeskPoor, makes("lab 1,2,1,1,,"), "new", deskLabAt(2)),
		deskBrings("to make, the second has just enough", makes("lab 1,2,1,1,,"), "new", "draw 7 d1 lab service 1", deskLabAt(3)),
		deskTold("to make, the first is poor", impl.DeskPoor, makes("lab 1,10,1,1,,"), "new"),
		deskBrings("to make in ops", makes("ops 1,3,0,2,,"), "new", "draw 7 d1 ops copies 2"),
		deskTold("to make in ops, where too little is free", impl.DeskPoor, makes("ops 1,3,0,3,,"), "new"),
		deskBrings("to make without ledgers", makes("dev 1,10,0,10,,"), "new", "slip 7 d1 4 new:0 ann make new dev fleet 1,10,0,10,,", ofGate(func(g *impl.GateBook) { g.Ledgers, g.Purses = nil, nil })),
		deskBrings("to change what weighs as much", api("6,3,1,2,,"), "api", "slip 7 d1 4 api:7 ann change api 7 6,3,1,2,,"),
		deskBrings("to change to less", api("5,0,1,1,,"), "api", "slip 7 d1 4 api:7 ann change api 7 5,0,1,1,,"),
		deskBrings("to change to more, with a purse", api("5,7,1,2,,"), "api", "slip 7 d1 4 api:7 ann change api 7 5,7,1,2,,"),
		deskBrings("to change to more than a purse", api("5,10,1,2,,"), "api", "draw 7 d1 dev copies 3"),
		deskBrings("to change to as much as is free", atDoor("d3", api("5,9,1,2,,")), "api", "draw 7 d3 dev copies 6"),
		deskTold("to change to one more", impl.DeskPoor, atDoor("d3", api("5,10,1,2,,")), "api"),
		deskBrings("to change what has a sixth", annsDesk("", deskText("db lab 3,4,0,1,10,")), "db", "slip 7 d1 4 db:8 ann change db 8 3,4,0,1,10,api"),
		deskBrings("to change what follows no more", annsDesk("", deskText("db lab 2,4,0,1,,")), "db", "slip 7 d1 4 db:8 ann change db 8 2,4,0,1,,api"),
		deskBrings("to change what an Ending one owns", annsDesk("", deskText("log ops 3,3,0,1,,")), "log", "slip 7 d1 4 log:10 ann change log 10 3,3,0,1,,cron"),
		deskBrings("to end", annsDesk("w", ""), "web", "slip 7 d1 4 web:13 ann end web 13"),
		deskBrings("to end, in another team", api("5,3,1,2,,"), "db", "slip 7 d1 4 db:8 ann end db 8"),
		deskBrings("other grants", annsDesk("", ""), "web", "slip 7 d1 19 web:13 ann end web 13", ofGate(func(g *impl.GateBook) { g.Given = 19 })),
		deskBrings("by another", asBob(annsDesk("w-", deskText("w-1 lab 1,2,1,1,,"))), "w-1", "draw 7 d1 lab service 1"),
		deskBrings("by another, with a purse", asBob(annsDesk("w-", deskText("w-1 lab 1,2,1,1,,"))), "w-1", "slip 7 d1 4 w-1:0 bob make w-1 lab fleet 1,2,1,1,,", deskLabPurse),
		deskBrings("by another who may end", desk{Who: "cy", Door: "d2", Prefix: "web"}, "web", "slip 7 d2 4 web:13 cy end web 13"),
	})
}

// deskLabAt sets the bound of services in lab, of which there are two.
func deskLabAt(most int) booksTurn {
	return func(b *twoBooks) {
		b.Gate.Ledgers[1].Most = most
		b.Gate.Ledgers[1].Free = most - 2
	}
}

// deskLabPurse gives d1 a service of lab.
func deskLabPurse(b *twoBooks) {
	b.Gate.Purses = slices.Insert(b.Gate.Purses, 1, impl.GatePurse{Door: "d1", Team: "lab", Resource: "service", Amount: 1, Until: 9})
	hallAllFree(b)
}

// deskPurses gives so many purses, those of the books among them, to other doors.
func deskPurses(many int) booksTurn {
	return func(b *twoBooks) {
		for i := 0; len(b.Gate.Purses) < many; i++ {
			b.Gate.Ledgers[2].Most++
			b.Gate.Purses = append(b.Gate.Purses, impl.GatePurse{Door: "e" + strconv.Itoa(10+i), Team: "ops", Resource: "copies", Amount: 1, Until: 9})
		}
		hallAllFree(b)
	}
}

func TestDeskTryTold(t *testing.T) {
	fits, odd := annsDesk("", deskText("new dev 1,2,1,1,,")), annsDesk("", deskBlock("new")+deskBlock("api", "team dev", "image 0")+deskBlock("old", "team dev", "follow 0 0 3")+deskBlock(letters(17)))
	checkTries(t, []deskTryCase{
		deskTold("not looked after", impl.DeskNone, annsDesk("w", deskText("new dev 1,2,1,1,,")), "new"),
		deskTold("not looked after, and there", impl.DeskNone, annsDesk("w", ""), "api"),
		deskTold("not looked after, and Ending", impl.DeskNone, annsDesk("w", ""), "old"),
		deskTold("not looked after, and odd", impl.DeskNone, annsDesk("w", deskBlock("new")), "new"),
		deskTold("a beginning of the Prefix", impl.DeskNone, annsDesk("web", ""), "we"),
		deskTold("no name, with a Prefix", impl.DeskNone, annsDesk("web", ""), ""),
		deskTold("no team", impl.DeskNoTeam, odd, "new"),
		deskTold("unfit, and there", impl.DeskUnfit, odd, "api"),
		deskTold("a most without following, and Ending", impl.DeskLeast, odd, "old"),
		deskTold("too long", impl.DeskLong, odd, letters(17)),
		deskTold("Ending", impl.DeskEnding, annsDesk("", ""), "old"),
		deskTold("Ending, and wanted so", impl.DeskEnding, annsDesk("", deskText("old dev 1,2,0,1,,")), "old"),
		deskTold("Ending, and wanted otherwise", impl.DeskEnding, annsDesk("", deskText("cron dev 9,9,0,9,,")), "cron"),
		deskTold("Ending, with somebody who may nothing", impl.DeskEnding, desk{Who: "eve", Door: "d1"}, "bin"),
		deskTold("as it is", impl.DeskNothing, annsDesk("", deskText("api dev 5,3,1,2,,")), "api"),
		deskTold("as it is, with somebody who may nothing", impl.DeskNothing, desk{Who: "eve", Door: "d1", Text: deskText("api dev 5,3,1,2,,")}, "api"),
		deskTold("neither there nor wanted", impl.DeskNothing, annsDesk("", ""), "new"),
		deskTold("no name", impl.DeskNothing, annsDesk("", ""), ""),
		deskTold("what is no name", impl.DeskNothing, annsDesk("", ""), "New"),
		deskTold("they may not make it there", impl.DeskRefused, asBob(annsDesk("", deskText("w-1 dev 1,2,1,1,,"))), "w-1"),
		deskTold("they may not make that", impl.DeskRefused, asBob(annsDesk("", deskText("new lab 1,2,1,1,,"))), "new"),
		deskTold("they may not end it", impl.DeskRefused, asBob(annsDesk("", "")), "web"),
		deskTold("they may not change it", impl.DeskRefused, asBob(annsDesk("", deskText("web lab 5,2,0,1,,"))), "web"),
		deskTold("they may nothing, and are poor", impl.DeskRefused, desk{Who: "eve", Door: "d3", Text: deskText("new dev 1,10,1,10,,")}, "new"),
		deskTold("no room for an object", impl.DeskRefused, fits, "new", hallHeap(40)),
		deskTold("no room for an object, and no purse", impl.DeskRefused, atDoor("d3", fits), "new", hallHeap(40)),
		deskTold("no versions left", impl.DeskRefused, fits, "new", gateAt(1000000)),
		deskTold("no versions left, and no purse", impl.DeskRefused, atDoor("d3", fits), "new", gateAt(1000000)),
		deskTold("no versions left, and poor", impl.DeskRefused, atDoor("d3", annsDesk("", deskText("new dev 1,10,1,10,,"))), "new", gateAt(1000000)),
		deskBrings("the last version", fits, "new", "slip 7 d1 4 new:0 ann make new dev fleet 1,2,1,1,,", gateAt(999999)),
		deskTold("a ninth service", impl.DeskRefused, fits, "new", hallCrowd(8)),
		deskBrings("a ninth service, and no purse", atDoor("d3", fits), "new", "draw 7 d3 dev copies 3", hallCrowd(8)),
		deskTold("a ninth service, and poor", impl.DeskPoor, atDoor("d3", annsDesk("", deskText("new dev 1,10,1,10,,"))), "new", hallCrowd(8)),
		deskTold("no change of Stew left", impl.DeskRefused, fits, "new", stewAt(1000000)),
		deskBrings("no change of Stew left, and no purse", atDoor("d3", fits), "new", "draw 7 d3 dev copies 3", stewAt(1000000)),
		deskTold("no change of Stew left, to end", impl.DeskRefused, annsDesk("", ""), "web", stewAt(1000000)),
		deskBrings("a last purse", atDoor("d3", fits), "new", "draw 7 d3 dev copies 3", deskPurses(23)),
		deskTold("a purse too many", impl.DeskRefused, atDoor("d3", fits), "new", deskPurses(24)),
		deskTold("a purse too many, and poor", impl.DeskPoor, atDoor("d3", annsDesk("", deskText("new dev 1,10,1,10,,"))), "new", deskPurses(24)),
		deskBrings("no purse more", annsDesk("", deskText("new dev 1,4,1,1,,")), "new", "draw 7 d1 dev copies 1", deskPurses(24)),
		deskBrings("no purse needed", fits, "new", "slip 7 d1 4 new:0 ann make new dev fleet 1,2,1,1,,", deskPurses(24)),
	})
}

func TestDeskTryNotOk(t *testing.T) {
	d := annsDesk("", deskText("web lab 5,2,0,1,,", "new dev 1,2,1,1,,")+deskBlock("odd"))
	for _, name := range []string{"", "api", "new", "odd", "old", "web"} {
		for _, number := range []int{7, 0} {
			for what, b := range deskBadBooks() {
				checkTry(t, what, deskReadBy(hallHouse(), b, d), name, number, "", impl.DeskNone)
			}
			for what, h := range hallBadHouses() {
				checkTry(t, what, deskReadBy(h, hallBooks(), d), name, number, "", impl.DeskNone)
				checkTry(t, what+", and no books", deskReadBy(h, twoBooks{}, d), name, number, "", impl.DeskNone)
			}
			for what, bad := range deskBadDesks() {
				checkTry(t, what, deskReadBy(hallHouse(), hallBooks(), bad), name, number, "", impl.DeskNone)
			}
			checkTry(t, "another house", deskReadBy(house{}, hallBooks(), d), name, number, "", impl.DeskNone)
		}
	}
	checkTry(t, "no house, no books", deskReadBy(house{}, twoBooks{}, d), "web", 7, "", impl.DeskNoTeam)
	checkTry(t, "the first books", deskReadBy(hallHouse(), impl.HallFirst(hallHouse()), d), "web", 7, "slip 7 d1 3 web:0 ann make web lab fleet 5,2,0,1,,", 0)
}

// A number out of its bounds is looked for with the slip, whether a draw would be told or not.
func TestDeskTryNumbers(t *testing.T) {
	text := deskText("new dev 1,4,1,1,,", "more dev 1,2,1,1,,", "poor dev 1,10,1,10,,", "db lab 2,4,0,1,10,") + deskBlock("odd")
	tried := map[string]struct {
		form string
		code int
	}{
		"new":  {form: "draw N d1 dev copies 1"},
		"more": {form: "slip N d1 4 more:0 ann make more dev fleet 1,2,1,1,,"},
		"web":  {form: "slip N d1 4 web:13 ann end web 13"},
		"poor": {code: impl.DeskPoor},
		"db":   {code: impl.DeskNothing},
		"odd":  {code: impl.DeskNoTeam},
		"old":  {code: impl.DeskEnding},
		"Old":  {code: impl.DeskNothing},
	}
	for name, c := range tried {
		for _, number := range []int{1, 2, 9, 10, 500001, 999999, 1000000} {
			form := strings.ReplaceAll(c.form, "N", strconv.Itoa(number))
			checkTry(t, "a number", deskReadBy(hallHouse(), hallBooks(), annsDesk("", text)), name, number, form, c.code)
		}
		for _, number := range []int{0, -1, 1000001, 9999999, 10000000, math.MinInt, math.MaxInt} {
			code := c.code
			if c.form != "" || code == impl.DeskPoor {
				code = impl.DeskRefused
			}
			checkTry(t, "a number that is none", deskReadBy(hallHouse(), hallBooks(), annsDesk("", text)), name, number, "", code)
			checkTry(t, "a number that is none, not looked after", deskReadBy(hallHouse(), hallBooks(), annsDesk("x", text)), name, number, "", impl.DeskNone)
		}
	}
}

// The longest form that a desk can ask for.
func TestDeskTryLongest(t *testing.T) {
	name := letters(15) + "b"
	h := hallLongHouse()
	b := impl.HallFirst(h)
	d := desk{Who: letters(16), Door: letters(16), Prefix: name, Text: deskText(name + " " + letters(16) + " 1000,10,10,10,1000000,")}
	form := "slip 1000000 " + letters(16) + " 1 " + name + ":0 " + letters(16) + " make " + name + " " + letters(16) + " fleet 1000,10,10,10,1000000,"
	checkTry(t, "long names", deskReadBy(h, b, d), name, 1000000, form, 0)
	b.Gate.Now, b.Gate.Given = 999999, 999999
	form = strings.Replace(form, " 1 ", " 999999 ", 1)
	checkTry(t, "long names, late", deskReadBy(h, b, d), name, 1000000, form, 0)
	b.Gate.Ledgers = []impl.GateLedger{{Team: letters(16), Resource: "copies", Most: 1000000, Free: 1000000}}
	checkTry(t, "a long draw", deskReadBy(h, b, d), name, 1000000, "draw 1000000 "+letters(16)+" "+letters(16)+" copies 20", 0)
}
