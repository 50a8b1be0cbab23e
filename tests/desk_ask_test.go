package tests

import (
	"slices"
	"strings"
	"testing"

	"loop.example/wharfdesk/impl"
)

// deskObjectIn is the object of a name in books that are ok.
func deskObjectIn(b twoBooks, name string) (impl.GateObject, bool) {
	at := placeOf(b.Gate, thing{"service", name})
	if at < 0 {
		return impl.GateObject{}, false
	}
	return b.Gate.Objects[at], true
}

// deskReading is a desk and the books that it looks at, read once more from the document.
type deskReading struct {
	h    house
	b    twoBooks
	d    desk
	plan deskPlan
	// ok says that the desk can look after a name at all.
	ok bool
}

func deskReadBy(h house, b twoBooks, d desk) deskReading {
	plan := deskPlanBy(h, d)
	return deskReading{h: h, b: b, d: d, plan: plan, ok: hallIsOk(h, b) && deskIsOk(d) && plan.Fault.Code == 0}
}

func (r deskReading) looksAfter(name string) bool {
	return r.ok && strings.HasPrefix(name, r.d.Prefix)
}

// asks is the document's sentence on what is asked of a name.
func (r deskReading) asks(name string) (ask, bool) {
	said := deskSaidOf(r.plan, name)
	if !r.looksAfter(name) || len(said.Odds) > 0 {
		return ask{}, false
	}
	o, there := deskObjectIn(r.b, name)
	a := ask{Who: r.d.Who, Kind: "service", Name: name}
	if !there {
		if len(said.Wants) == 0 {
			return ask{}, false
		}
		a.Verb, a.Team, a.Values, a.Holds = 1, said.Wants[0].Team, said.Wants[0].Values, texts{"fleet"}
		return a, true
	}
	a.Seen = o.Version
	switch {
	case o.Ending:
		return ask{}, false
	case len(said.Wants) == 0 || said.Wants[0].Team != o.Team:
		a.Verb = 3
		return a, true
	}
	a.Verb, a.Values = 2, append(slices.Clone(said.Wants[0].Values[:5]), o.Values[5])
	if slices.Equal(a.Values, o.Values) {
		return ask{}, false
	}
	return a, true
}

// checkDeskAsk says what is asked of a name, nothing being asked by an ask without a verb, that it is new, and that no argument is changed.
func checkDeskAsk(t *testing.T, what string, r deskReading, name string, want ask) {
	t.Helper()
	h, b := spread(r.h), spread(r.b)
	houseWas, booksWere := whole(h), whole(b)
	got, is := impl.DeskAskOf(h, b, r.d, name)
	if !same(got, want) || is != (want.Verb != 0) {
		t.Errorf("%s: of %q is asked %+v, %v, not %+v", what, name, got, is, want)
	}
	if read, isRead := r.asks(name); !same(read, want) || isRead != is {
		t.Errorf("%s: of %q is read that %+v is asked, %v, not %+v", what, name, read, isRead, want)
	}
	if !same(whole(h), houseWas) || !same(whole(b), booksWere) {
		t.Errorf("%s: an argument is changed", what)
	}
	again, _ := impl.DeskAskOf(h, b, r.d, name)
	newMemory(t, what, got, h, b, again)
	if is && !impl.GateAskOk(hallLawOf(h.Teams), got) {
		t.Errorf("%s: %+v is not ok", what, got)
	}
}

// deskText says services, each with its name, its team and its values as they are to be wanted.
func deskText(services ...string) string {
	text := ""
	for _, service := range services {
		words := strings.Fields(service)
		v := strings.Split(words[2], ",")
		lines := texts{"team " + words[1], "image " + v[0], "want " + v[1], "down " + v[2], "over " + v[3]}
		if v[4] != "" {
			lines[2] = "follow " + v[4] + " 0 " + v[1]
		}
		text += deskBlock(words[0], lines...)
	}
	return text
}

// deskAsksCase is a name at ann's desk by hallBooks as turned, and what is asked of it; without a verb nothing is.
type deskAsksCase struct {
	what string
	name string
	text string
	want ask
	with []booksTurn
}

func checkDeskAsks(t *testing.T, prefix string, list []deskAsksCase) {
	t.Helper()
	for _, c := range list {
		b := hallTurned(c.with...)
		if !hallIsOk(hallHouse(), b) {
			t.Errorf("%s: the books are not ok", c.what)
		}
		for _, who := range []string{"ann", "eve", letters(16)} {
			d := annsDesk(prefix, c.text)
			d.Who = who
			if c.want.Verb != 0 {
				c.want.Who = who
			}
			checkDeskAsk(t, c.what, deskReadBy(hallHouse(), b, d), c.name, c.want)
		}
	}
}

func TestDeskAskToMake(t *testing.T) {
	fleet := texts{"fleet"}
	checkDeskAsks(t, "", []deskAsksCase{
		{"not there", "new", deskText("new dev 1,2,1,1,,"), asksMake("new", "dev", fleet, "1", "2", "1", "1", "", ""), nil},
		{"that follows its load", "new", deskText("new lab 9,4,2,3,20,"), asksMake("new", "lab", fleet, "9", "4", "2", "3", "20", ""), nil},
		{"shaped", "new", deskText("new ops 7,1,5,0,,"), asksMake("new", "ops", fleet, "7", "1", "0", "1", "", ""), nil},
		{"with nothing said", "new", deskBlock("new", "team dev"), asksMake("new", "dev", fleet, "1", "1", "0", "1", "", ""), nil},
		{"a long name", letters(16), deskText(letters(16) + " dev 1,2,1,1,,"), asksMake(letters(16), "dev", fleet, "1", "2", "1", "1", "", ""), nil},
		{"one of several", "new", deskText("nea dev 1,2,1,1,,", "new lab 2,3,0,2,,", "nex ops 1,2,1,1,,"), asksMake("new", "lab", fleet, "2", "3", "0", "2", "", ""), nil},
		{"in a book with no versions left", "new", deskText("new dev 1,2,1,1,,"), asksMake("new", "dev", fleet, "1", "2", "1", "1", "", ""), []booksTurn{gateAt(1000000)}},
		{"in a full book", "new", deskText("new dev 1,2,1,1,,"), asksMake("new", "dev", fleet, "1", "2", "1", "1", "", ""), []booksTurn{hallCrowd(8), hallHeap(40)}},
		{"neither there nor wanted", "new", deskText("nea dev 1,2,1,1,,"), ask{}, nil},
		{"neither there nor wanted, a team of the name", "new", "team new\nend\nberth new\nend\n", ask{}, nil},
		{"not there, and odd", "new", deskBlock("new"), ask{}, nil},
		{"not there, and too long", letters(17), deskBlock(letters(17), "team dev"), ask{}, nil},
		{"no name at all", "", deskText("new dev 1,2,1,1,,"), ask{}, nil},
		{"what is no name", "New", deskText("new dev 1,2,1,1,,"), ask{}, nil},
		{"a name and more", "new ", deskText("new dev 1,2,1,1,,"), ask{}, nil},
		{"a beginning of the name", "ne", deskText("new dev 1,2,1,1,,"), ask{}, nil},
	})
}

func TestDeskAskToEnd(t *testing.T) {
	others := deskText("apa dev 5,3,1,2,,", "apis dev 5,3,1,2,,")
	checkDeskAsks(t, "", []deskAsksCase{
		{"not wanted", "api", others, asksEnd("api", 7), nil},
		{"nothing wanted", "web", "", asksEnd("web", 13), nil},
		{"a team and a berth of its name", "web", "team web\nend\nberth web\nend\n", asksEnd("web", 13), nil},
		{"in another team", "api", deskText("api lab 5,3,1,2,,"), asksEnd("api", 7), nil},
		{"in the team over it", "web", deskText("web dev 4,2,0,1,,"), asksEnd("web", 13), nil},
		{"in another team, and otherwise", "api", deskText("api ops 6,2,0,1,20,"), asksEnd("api", 7), nil},
		{"one that others own", "api", "", asksEnd("api", 7), nil},
		{"one that another owns", "db", "", asksEnd("db", 8), nil},
		{"one whose owner ends", "log", "", asksEnd("log", 10), nil},
		{"Ending, not wanted", "cron", "", ask{}, nil},
		{"Ending, in another team", "old", deskText("old lab 1,2,0,1,,"), ask{}, nil},
		{"Ending, held no more", "bin", "", ask{}, nil},
		{"odd", "api", deskBlock("api"), ask{}, nil},
		{"odd and Ending", "old", deskBlock("old"), ask{}, nil},
	})
}

func TestDeskAskToChange(t *testing.T) {
	change := func(name string, seen int, values string) ask {
		return asksChange(name, seen, strings.Split(values, ",")...)
	}
	api, db := "api dev ", "db lab "
	checkDeskAsks(t, "", []deskAsksCase{
		{"as it is", "api", deskText(api + "5,3,1,2,,"), ask{}, nil},
		{"another image", "api", deskText(api + "6,3,1,2,,"), change("api", 7, "6,3,1,2,,"), nil},
		{"another most", "api", deskText(api + "5,2,1,2,,"), change("api", 7, "5,2,1,2,,"), nil},
		{"another down", "api", deskText(api + "5,3,0,2,,"), change("api", 7, "5,3,0,2,,"), nil},
		{"another over", "api", deskText(api + "5,3,1,1,,"), change("api", 7, "5,3,1,1,,"), nil},
		{"another per", "api", deskText(api + "5,3,1,2,9,"), change("api", 7, "5,3,1,2,9,"), nil},
		{"all of them", "api", deskText(api + "1,1,7,0,8,"), change("api", 7, "1,1,0,1,8,"), nil},
		{"as it is, with a sixth", "db", deskText(db + "2,4,0,1,10,"), ask{}, nil},
		{"another image, with a sixth", "db", deskText(db + "3,4,0,1,10,"), change("db", 8, "3,4,0,1,10,api"), nil},
		{"another most, with a sixth", "db", deskText(db + "2,5,0,1,10,"), change("db", 8, "2,5,0,1,10,api"), nil},
		{"no per, with a sixth", "db", deskText(db + "2,4,0,1,,"), change("db", 8, "2,4,0,1,,api"), nil},
		{"another per, with a sixth", "db", deskText(db + "2,4,0,1,11,"), change("db", 8, "2,4,0,1,11,api"), nil},
		{"the sixth is Ending", "log", deskText("log ops 4,2,0,1,,"), change("log", 10, "4,2,0,1,,cron"), nil},
		{"as it is, the sixth is Ending", "log", deskText("log ops 3,2,0,1,,"), ask{}, nil},
		{"it owns itself", "web", deskText("web lab 4,3,0,1,,"), change("web", 13, "4,3,0,1,,web"), []booksTurn{ofObject(hallWeb, setValues("4", "2", "0", "1", "", "web"))}},
		{"as it is, and owns itself", "web", deskText("web lab 4,2,0,1,,"), ask{}, []booksTurn{ofObject(hallWeb, setValues("4", "2", "0", "1", "", "web"))}},
		{"as it is, when it is shaped", "web", deskText("web lab 4,1,9,0,,"), ask{}, []booksTurn{
			ofObject(hallWeb, setValues("4", "1", "0", "1", "", "")), ofService(hallWebService, func(s *impl.StewService) { s.Want = 1 }), hallSettle,
		}},
		{"Ending, as it is", "old", deskText("old dev 1,2,0,1,,"), ask{}, nil},
		{"Ending, otherwise", "cron", deskText("cron ops 2,3,1,2,,"), ask{}, nil},
		{"odd", "api", deskBlock("api", "team dev", "image 6", "want 11"), ask{}, nil},
		{"odd by a least", "db", deskBlock("db", "team lab", "follow 10 1 4"), ask{}, nil},
	})
}

// Names that begin with the Prefix, and others.
func TestDeskAskPrefix(t *testing.T) {
	text := deskText("api dev 6,3,1,2,,", "apis dev 1,2,1,1,,", "w dev 1,2,1,1,,")
	asked := map[string]ask{
		"api":  asksChange("api", 7, "6", "3", "1", "2", "", ""),
		"apis": asksMake("apis", "dev", texts{"fleet"}, "1", "2", "1", "1", "", ""),
		"db":   asksEnd("db", 8),
		"log":  asksEnd("log", 10),
		"w":    asksMake("w", "dev", texts{"fleet"}, "1", "2", "1", "1", "", ""),
		"web":  asksEnd("web", 13),
	}
	for _, prefix := range []string{"", "a", "ap", "api", "apis", "apiss", "d", "db", "l", "w", "we", "web", "web-", "x", "pi", letters(16)} {
		var list []deskAsksCase
		for _, name := range []string{"", "a", "api", "apis", "apiss", "bin", "cron", "db", "log", "old", "w", "web", "web-", "x", "zed"} {
			c := deskAsksCase{what: "the Prefix " + prefix, name: name, text: text}
			if strings.HasPrefix(name, prefix) {
				c.want = asked[name]
			}
			list = append(list, c)
		}
		checkDeskAsks(t, prefix, list)
	}
}

// deskBadBooks are books of hallHouse that are not ok.
func deskBadBooks() map[string]twoBooks {
	return map[string]twoBooks{
		"Gate is not ok":     hallTurned(gateAt(1)),
		"Stew is not valid":  hallTurned(stewAt(1)),
		"they are not tied":  hallTurned(noService(hallWebService)),
		"a Free is more":     hallTurned(free(0, 1)),
		"another Kind":       hallTurned(ofObject(hallWeb, func(o *impl.GateObject) { o.Kind = "team" })),
		"another Kind first": hallTurned(ofObject(hallApi, func(o *impl.GateObject) { o.Kind = "berth" })),
		"objects in a row":   hallTurned(ofGate(func(g *impl.GateBook) { slices.Reverse(g.Objects) })),
	}
}

// deskBadDesks are not ok, or have a text with a fault, though it would say web.
func deskBadDesks() map[string]desk {
	good := deskText("web lab 5,2,0,1,,")
	return map[string]desk{
		"no desk":                {},
		"no Who":                 {Door: "d1", Text: good},
		"a Who that is none":     {Who: "Ann", Door: "d1", Text: good},
		"no Door":                {Who: "ann", Text: good},
		"a Door that is none":    {Who: "ann", Door: letters(17), Text: good},
		"a Prefix that is none":  {Who: "ann", Door: "d1", Prefix: "w b", Text: good},
		"a fault behind":         annsDesk("", good+"end\n"),
		"a fault ahead":          annsDesk("", "end\n"+good),
		"a block that is open":   annsDesk("", good+"service zed\n"),
		"a text that is too big": annsDesk("", good+strings.Repeat("#", 20000)),
	}
}

func TestDeskAskNotOk(t *testing.T) {
	d := annsDesk("", deskText("web lab 5,2,0,1,,", "new dev 1,2,1,1,,"))
	for _, name := range []string{"", "api", "new", "web"} {
		for what, b := range deskBadBooks() {
			checkDeskAsk(t, what, deskReadBy(hallHouse(), b, d), name, ask{})
		}
		for what, h := range hallBadHouses() {
			checkDeskAsk(t, what, deskReadBy(h, hallBooks(), d), name, ask{})
			checkDeskAsk(t, what+", and no books", deskReadBy(h, twoBooks{}, d), name, ask{})
		}
		for what, bad := range deskBadDesks() {
			checkDeskAsk(t, what, deskReadBy(hallHouse(), hallBooks(), bad), name, ask{})
		}
		checkDeskAsk(t, "another house", deskReadBy(house{}, hallBooks(), d), name, ask{})
	}
	checkDeskAsk(t, "no house, no books", deskReadBy(house{}, twoBooks{}, d), "web", ask{})
	first := by("ann", asksMake("web", "lab", texts{"fleet"}, "5", "2", "0", "1", "", ""))
	checkDeskAsk(t, "the first books", deskReadBy(hallHouse(), impl.HallFirst(hallHouse()), d), "web", first)
}
