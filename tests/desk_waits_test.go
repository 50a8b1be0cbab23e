package tests

import (
	"slices"
	"strings"
	"testing"

	"loop.example/wharfdesk/impl"
)

// waits is the document's sentence on what a desk waits for.
func (r deskReading) waits() []deskOdd {
	var list []deskOdd
	for _, name := range r.names() {
		if _, code := r.tries(name, 1); code != 0 && code != 5 {
			list = append(list, deskOdd{Name: name, Code: code})
		}
	}
	return list
}

// has is the document's sentence on whether all is as the sheet says.
func (r deskReading) has() bool {
	for _, name := range r.names() {
		_, asks := r.asks(name)
		o, _ := deskObjectIn(r.b, name)
		if len(deskSaidOf(r.plan, name).Odds) == 0 && (asks || o.Ending) {
			return false
		}
	}
	return r.ok
}

// checkDeskWaits says what a desk waits for, each name with its code behind it.
func checkDeskWaits(t *testing.T, what string, r deskReading, want string) {
	t.Helper()
	words := strings.Fields(want)
	var list []deskOdd
	for i := 0; i < len(words); i += 2 {
		list = append(list, deskPlanned(words[i]+" "+words[i+1]).Odds...)
	}
	got := deskLooks(t, what, r, impl.DeskWaits)
	if !slices.Equal(got, list) {
		t.Errorf("%s: it waits for %v, not %v", what, got, list)
	}
	if read := r.waits(); !slices.Equal(read, list) {
		t.Errorf("%s: it is read that it waits for %v, not %v", what, read, list)
	}
}

func checkDeskHas(t *testing.T, what string, r deskReading, want bool) {
	t.Helper()
	if got := deskLooks(t, what, r, impl.DeskHas); got != want {
		t.Errorf("%s: it has what its sheet says: %v", what, got)
	}
	if read := r.has(); read != want {
		t.Errorf("%s: it is read that it has what its sheet says: %v", what, read)
	}
}

// deskRest is a desk of hallBooks as turned: what it waits for, and whether it has what its sheet says.
type deskRest struct {
	what  string
	desk  desk
	waits string
	has   bool
	with  []booksTurn
}

func checkDeskRests(t *testing.T, list []deskRest) {
	t.Helper()
	for _, c := range list {
		b := hallTurned(c.with...)
		if !hallIsOk(hallHouse(), b) {
			t.Errorf("%s: the books are not ok: %+v", c.what, b)
		}
		r := deskReadBy(hallHouse(), b, c.desk)
		checkDeskWaits(t, c.what, r, c.waits)
		checkDeskHas(t, c.what, r, c.has)
	}
}

// Ending are bin, cron and old.
func TestDeskWaitsAndHas(t *testing.T) {
	long := letters(17)
	of := func(prefix string, services ...string) desk {
		return atDoor("d3", annsDesk(prefix, deskText(services...)))
	}
	all := func(services ...string) desk { return atDoor("d3", annsDesk("", deskBut(services...))) }
	as := deskAsIs()
	checkDeskRests(t, []deskRest{
		{"no names", of("x"), "", true, nil},
		{"one that is as it is", of("a", "api "+as["api"]), "", true, nil},
		{"one that is as it is, with a sixth", of("d", "db "+as["db"]), "", true, nil},
		{"one that is as it is, with purses", atDoor("d1", of("a", "api "+as["api"])), "", true, nil},
		{"one that is as it is, with somebody who may do nothing", desk{Who: "eve", Door: "d3", Prefix: "a", Text: deskText("api " + as["api"])}, "", true, nil},
		{"one to make", of("n", "new dev 1,2,1,1,,"), "", false, nil},
		{"one to make, with a purse", atDoor("d1", of("n", "new dev 1,2,1,1,,")), "", false, nil},
		{"one to change", of("a", "api dev 6,3,1,2,,"), "", false, nil},
		{"one to end", of("a"), "", false, nil},
		{"one to end, in another team", of("a", "api ops 5,3,1,2,,"), "", false, nil},
		{"Ending", of("o"), "old 6", false, nil},
		{"Ending, held no more", of("b"), "bin 6", false, nil},
		{"Ending, and wanted so", of("o", "old dev 1,2,0,1,,"), "old 6", false, nil},
		{"Ending, and wanted otherwise", of("c", "cron dev 3,2,0,1,,"), "cron 6", false, nil},
		{"several Ending", all(), "bin 6 cron 6 old 6", false, nil},
		{"of no team", of("n", "new ghost 1,2,1,1,,"), "new 2", true, nil},
		{"too long", of("a", "api "+as["api"], long+" dev 1,1,0,1,,"), long + " 1", true, nil},
		{"unfit", of("n", "new dev 0,2,1,1,,"), "new 3", true, nil},
		{"unfit, and there", of("a", "api dev 5,3,1,12,,"), "api 3", true, nil},
		{"of no team, and Ending", of("o", "old ghost 1,2,0,1,,"), "old 2", true, nil},
		{"a least", atDoor("d3", annsDesk("a", deskBlock("api", "team dev", "follow 10 1 3"))), "api 4", true, nil},
		{"odd, and one that is as it is", of("d", "db "+as["db"], "dc ghost 1,1,0,1,,"), "dc 2", true, nil},
		{"odd, and one to make", of("n", "nb ghost 1,1,0,1,,", "na dev 1,1,0,1,,"), "nb 2", false, nil},
		{"odd, and one to end", of("d", "dc ghost 1,1,0,1,,"), "dc 2", false, nil},
		{"odd, and one Ending", of("o", "oa ghost 1,1,0,1,,"), "oa 2 old 6", false, nil},
		{"poor", of("n", "new dev 1,10,1,1,,"), "new 7", false, nil},
		{"poor to change", of("a", "api dev 5,10,1,2,,"), "api 7", false, nil},
		{"not poor, with a purse", atDoor("d1", of("n", "new dev 1,9,1,1,,")), "", false, nil},
		{"they may not make it", asBob(of("n", "new dev 1,1,0,1,,")), "new 8", false, nil},
		{"they may not change it", asBob(of("a", "api dev 6,3,1,2,,")), "api 8", false, nil},
		{"they may not end it", asBob(of("a")), "api 8", false, nil},
		{"no room for an object", of("n", "new dev 1,1,0,1,,"), "new 8", false, []booksTurn{hallHeap(40)}},
		{"a ninth service, and a purse", atDoor("d1", of("n", "new dev 1,1,0,1,,")), "new 8", false, []booksTurn{hallCrowd(8)}},
		{"a ninth service, and no purse", of("n", "new dev 1,1,0,1,,"), "", false, []booksTurn{hallCrowd(8)}},
		{"no versions left", of("d"), "db 8", false, []booksTurn{gateAt(1000000)}},
		{"no versions left, and nothing to do", of("d", "db "+as["db"]), "", true, []booksTurn{gateAt(1000000), stewAt(1000000)}},
		{"a purse too many", of("n", "new dev 1,1,0,1,,"), "new 8", false, []booksTurn{deskPurses(24)}},
		{"each of them, in order", all("aaa ghost 1,1,0,1,,", "api dev 0,3,1,2,,", "db lab 2,10,0,10,10,", "log no", "new dev 1,1,0,1,,", "old ghost 1,1,0,1,,", "web dev 4,2,0,1,,", long+" dev 1,1,0,1,,"),
			"aaa 2 " + long + " 1 api 3 bin 6 cron 6 db 7 old 2", false, nil},
		{"each of them, with somebody who may not", asBob(all("aaa ghost 1,1,0,1,,", "api dev 5,3,1,3,,", "new dev 1,1,0,1,,", "w-1 lab 1,1,0,1,,", "w-2 lab 1,10,0,1,,", "web no")),
			"aaa 2 api 8 bin 6 cron 6 new 8 old 6 w-2 7 web 8", false, nil},
		{"all there is to wait for is odd", of("", "api "+as["api"], "bin ghost 1,1,0,1,,", "cron ghost 1,1,0,1,,", "db "+as["db"], "log "+as["log"], "old ghost 1,1,0,1,,", "web "+as["web"]), "bin 2 cron 2 old 2", true, nil},
		{"the first books, and no sheet", of(""), "", true, []booksTurn{func(b *twoBooks) { *b = impl.HallFirst(hallHouse()) }}},
		{"the first books, and a sheet", of("", "new dev 1,1,0,1,,"), "", false, []booksTurn{func(b *twoBooks) { *b = impl.HallFirst(hallHouse()) }}},
	})
}

// Each line of a service by itself is what it waits to be as the sheet says; the object's other parts are not looked at.
func TestDeskHasEachPart(t *testing.T) {
	is := func(name, values string, want bool, with ...booksTurn) {
		t.Helper()
		b := hallTurned(with...)
		r := deskReadBy(hallHouse(), b, annsDesk(name, deskText(name+" "+values)))
		checkDeskHas(t, values, r, want)
		checkDeskWaits(t, values, r, "")
	}
	for values, want := range map[string]bool{
		"lab 2,4,0,1,10,": true,
		"dev 2,4,0,1,10,": false,
		"lab 3,4,0,1,10,": false,
		"lab 2,3,0,1,10,": false,
		"lab 2,4,1,1,10,": false,
		"lab 2,4,0,2,10,": false,
		"lab 2,4,0,1,11,": false,
		"lab 2,4,0,1,,":   false,
	} {
		is("db", values, want)
	}
	is("web", "lab 4,2,0,1,,", true, ofObject(hallWeb, setValues("4", "2", "0", "1", "", "api")))
	is("web", "lab 4,2,0,1,,", true, ofObject(hallWeb, func(o *impl.GateObject) { o.Holds = texts{"audit", "fleet", "zoo"} }))
	is("web", "lab 4,2,0,1,,", true, ofObject(hallWeb, func(o *impl.GateObject) { o.Version = 20 }))
}

// None of the four tells anything of what is not ok, or of a sheet with a fault.
func TestDeskNextNotOk(t *testing.T) {
	none := func(what string, h house, b twoBooks, d desk) {
		t.Helper()
		r := deskReadBy(h, b, d)
		checkDeskNames(t, what, r)
		checkDeskNext(t, what, r, 7, "")
		checkDeskWaits(t, what, r, "")
		checkDeskHas(t, what, r, false)
	}
	for _, text := range []string{"", deskText("web lab 5,2,0,1,,", "new dev 1,2,1,1,,") + deskBlock("odd")} {
		for _, d := range []desk{annsDesk("", text), annsDesk("x", text), atDoor("d3", annsDesk("web", text))} {
			for what, b := range deskBadBooks() {
				none(what, hallHouse(), b, d)
			}
			for what, h := range hallBadHouses() {
				none(what, h, hallBooks(), d)
				none(what+", and no books", h, twoBooks{}, d)
			}
			none("another house", house{}, hallBooks(), d)
		}
	}
	for what, d := range deskBadDesks() {
		none(what, hallHouse(), hallBooks(), d)
		none(what+", the first books", hallHouse(), impl.HallFirst(hallHouse()), d)
	}
	r := deskReadBy(house{}, twoBooks{}, annsDesk("", deskText("web lab 5,2,0,1,,")))
	checkDeskNames(t, "no house, no books", r, "web")
	checkDeskNext(t, "no house, no books", r, 7, "")
	checkDeskWaits(t, "no house, no books", r, "web 2")
	checkDeskHas(t, "no house, no books", r, true)
}
