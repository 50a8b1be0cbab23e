package tests

import (
	"fmt"
	"slices"
	"strconv"
	"strings"
	"testing"

	"loop.example/wharfdesk/impl"
)

// deskSum is what DeskEnough asks about, as far as it can be counted.
type deskSum struct {
	// toBe are the objects once all is as the sheets say.
	toBe []impl.GateObject
	// strange are the purses whose Door is no desk's.
	strange []impl.GatePurse
	// barred are names for which somebody lacks a right.
	barred texts
	ok     bool
}

// deskSumBy counts by the document's words.
func deskSumBy(h house, b twoBooks, list []desk) deskSum {
	sum := deskSum{ok: hallIsOk(h, b) && deskAreApart(list)}
	had, doors := map[string]bool{}, map[string]bool{}
	for _, d := range list {
		r := deskReadBy(h, b, d)
		sum.ok, doors[d.Door] = sum.ok && r.ok, true
		for _, w := range r.plan.Wants {
			o := impl.GateObject{Kind: "service", Name: w.Name, Team: w.Team, Values: w.Values}
			sum.toBe = append(sum.toBe, o)
			sum.bar(h, b, d, o)
		}
		for _, o := range b.Gate.Objects {
			if strings.HasPrefix(o.Name, d.Prefix) && len(deskSaidOf(r.plan, o.Name).Odds) == 0 {
				had[o.Name] = true
				sum.bar(h, b, d, o)
			}
		}
	}
	for _, o := range b.Gate.Objects {
		if !had[o.Name] {
			sum.toBe = append(sum.toBe, o)
		}
	}
	sum.strange = slices.DeleteFunc(slices.Clone(b.Gate.Purses), func(p impl.GatePurse) bool { return doors[p.Door] })
	return sum
}

func (s *deskSum) bar(h house, b twoBooks, d desk, o impl.GateObject) {
	var rules ruleList
	for _, g := range b.Gate.Grants {
		if g.To == d.Who {
			rules = append(rules, g.Rule)
		}
	}
	for verb := 1; verb <= 3; verb++ {
		if !allowedByOne(h.Teams, rules, impl.GateAct{Verb: verb, Kind: "service", Team: o.Team, Name: o.Name}) {
			s.barred = append(s.barred, o.Name)
		}
	}
}

// of is what is to be of a ledger's resource.
func (s deskSum) of(h house, ledger impl.GateLedger) int {
	sum := usedBy(hallLawOf(h.Teams), impl.GateBook{Objects: s.toBe}, ledger.Team, ledger.Resource)
	for _, p := range s.strange {
		if p.Team == ledger.Team && p.Resource == ledger.Resource {
			sum += p.Amount
		}
	}
	return sum
}

// over are the ledgers of which more is to be than there may.
func (s deskSum) over(h house, b twoBooks) int {
	return len(slices.DeleteFunc(slices.Clone(b.Gate.Ledgers), func(ledger impl.GateLedger) bool { return s.of(h, ledger) <= ledger.Most }))
}

// deskHeld are other holds than `fleet`.
func deskHeld(b twoBooks) int {
	held := 0
	for _, o := range b.Gate.Objects {
		held += len(slices.DeleteFunc(slices.Clone(o.Holds), func(hold string) bool { return hold == "fleet" }))
	}
	return held
}

// deskIsEnough is the document's sentence on what can be.
func deskIsEnough(h house, b twoBooks, list []desk) bool {
	sum := deskSumBy(h, b, list)
	counts := len(sum.toBe) <= 8 && len(sum.strange)+len(list)*len(b.Gate.Ledgers) <= 24
	return sum.ok && len(sum.barred) == 0 && deskHeld(b) == 0 && sum.over(h, b) == 0 && counts
}

// checkEnough says whether all that sheets say can be, and that no argument is changed.
func checkEnough(t *testing.T, what string, h house, b twoBooks, list []desk, want bool) {
	t.Helper()
	h, b, list = spread(h), spread(b), spread(list)
	houseWas, booksWere, desksWere := whole(h), whole(b), whole(list)
	if got := impl.DeskEnough(h, b, list); got != want {
		t.Errorf("%s: it can be: %v", what, got)
	}
	if read := deskIsEnough(h, b, list); read != want {
		t.Errorf("%s: it is read that it can be: %v: %+v", what, read, deskSumBy(h, b, list))
	}
	if !same(whole(h), houseWas) || !same(whole(b), booksWere) || !same(whole(list), desksWere) {
		t.Errorf("%s: an argument is changed", what)
	}
}

// deskFleetOnly takes all holds away but `fleet`.
func deskFleetOnly(b *twoBooks) {
	for i := range b.Gate.Objects {
		o := &b.Gate.Objects[i]
		o.Holds = slices.DeleteFunc(slices.Clone(o.Holds), func(hold string) bool { return hold != "fleet" })
	}
}

// deskFleet is hallBooks without other holds than `fleet`, turned. Of dev's 30 copies all objects weigh 18, those of lab 8 of them; d1 has 4, and d2 2. There may be 4 services in lab, and are 2. Of the 10 copies of ops objects weigh 5, and d1 has 3.
func deskFleet(turns ...booksTurn) twoBooks {
	return hallTurned(append([]booksTurn{deskFleetOnly}, turns...)...)
}

// deskCan is whether it can be what desks say by deskFleet, turned.
type deskCan struct {
	what string
	can  bool
	list []desk
	with []booksTurn
}

func checkCan(t *testing.T, list []deskCan) {
	t.Helper()
	for _, c := range list {
		b := deskFleet(c.with...)
		if !hallIsOk(hallHouse(), b) {
			t.Errorf("%s: the books are not ok", c.what)
		}
		checkEnough(t, c.what, hallHouse(), b, c.list, c.can)
	}
}

// deskAlone is ann's desk alone, with a door that has nothing.
func deskAlone(prefix, text string) []desk {
	return []desk{atDoor("d3", annsDesk(prefix, text))}
}

func TestDeskEnough(t *testing.T) {
	checkCan(t, []deskCan{
		{"no desk", true, nil, nil},
		{"all as it is", true, deskAlone("", deskBut()), nil},
		{"nothing", true, deskAlone("", ""), nil},
		{"nothing, nowhere", true, deskAlone("n", ""), nil},
		{"something new", true, deskAlone("n", deskText("new dev 1,3,1,1,,")), nil},
		{"something else", true, deskAlone("", deskBut("web dev 4,2,0,1,,", "db no", "new ops 1,1,0,1,,")), nil},
		{"something that follows", true, deskAlone("n", deskText("new lab 1,3,1,1,20,")), nil},
		{"odd ones", true, deskAlone("", deskBut()+deskBlock("new")+deskBlock(letters(17))), nil},
		{"four desks", true, desksOf("a", "b", "c", "n"), nil},
		{"the first books", true, nil, []booksTurn{func(b *twoBooks) { *b = impl.HallFirst(hallHouse()) }}},
		{"the first books, and all", true, desksOf(""), []booksTurn{func(b *twoBooks) { *b = impl.HallFirst(hallHouse()) }}},
	})
	checkEnough(t, "a house of nothing", house{}, twoBooks{}, nil, true)
}

func TestDeskEnoughNotOk(t *testing.T) {
	good := deskAlone("", deskBut())
	for what, b := range deskBadBooks() {
		deskFleetOnly(&b)
		checkEnough(t, what, hallHouse(), b, good, false)
		checkEnough(t, what+", no desk", hallHouse(), b, nil, false)
	}
	for what, h := range hallBadHouses() {
		checkEnough(t, what, h, deskFleet(), good, false)
		checkEnough(t, what+", no desk", h, deskFleet(), nil, false)
		checkEnough(t, what+", no books", h, twoBooks{}, nil, false)
	}
	checkEnough(t, "another house", house{}, deskFleet(), nil, false)
	for what, bad := range deskBadDesks() {
		if deskIsOk(bad) {
			bad.Prefix = "web"
		}
		checkEnough(t, what, hallHouse(), deskFleet(), []desk{bad}, false)
		for at := range 3 {
			list := desksOf("x", "y")
			checkEnough(t, what+", among others", hallHouse(), deskFleet(), slices.Insert(list, at, bad), false)
		}
	}
	for what, list := range map[string][]desk{
		"five desks":         desksOf("a", "b", "c", "d", "e"),
		"one Prefix":         desksOf("a", "a"),
		"a Prefix begins":    desksOf("ab", "a"),
		"no Prefix of two":   desksOf("", "a"),
		"one Door":           {annsDesk("a", ""), annsDesk("b", "")},
		"one Door, far away": {annsDesk("a", ""), atDoor("d2", annsDesk("b", "")), annsDesk("c", "")},
	} {
		checkEnough(t, what, hallHouse(), deskFleet(), list, false)
	}
}

// deskGrants are all grants that there are.
func deskGrants(rules ...string) booksTurn {
	return func(b *twoBooks) {
		b.Gate.Grants = nil
		for i, rule := range rules {
			words := strings.Fields(rule)
			g := impl.GateGrant{Number: 1 + i, To: words[0]}
			for _, verb := range words[1] {
				g.Rule.Verbs = append(g.Rule.Verbs, int(verb-'0'))
			}
			for _, word := range words[2:] {
				switch key, value, _ := strings.Cut(word, "="); key {
				case "team":
					g.Rule.Team = value
				case "kind":
					g.Rule.Kind = value
				case "prefix":
					g.Rule.Prefix = value
				}
			}
			b.Gate.Grants = append(b.Gate.Grants, g)
		}
	}
}

// deskRights is whether ann's rights, grants in a row with `;` between, suffice for a desk.
type deskRights struct {
	can    bool
	rules  string
	prefix string
	text   string
}

func TestDeskEnoughRights(t *testing.T) {
	asIs, new := deskBut(), deskText("new dev 1,1,0,1,,")
	for _, c := range []deskRights{
		{true, "ann 123", "", asIs}, {true, "ann 12345", "", asIs}, {true, "ann 123 kind=service", "", asIs}, {true, "ann 1;ann 2;ann 3", "", asIs}, {true, "bob 4;ann 3;ann 12", "", asIs},
		{false, "ann 12", "", asIs}, {false, "ann 13", "", asIs}, {false, "ann 23", "", asIs}, {false, "ann 45", "", asIs}, {false, "ann 123 kind=berth", "", asIs}, {false, "bob 123", "", asIs}, {false, "ann 12;bob 3", "", asIs},
		// Of what is wanted and not there yet.
		{true, "ann 123", "n", new}, {true, "ann 123 team=dev", "n", new}, {true, "ann 123 prefix=n", "n", new}, {true, "ann 123 prefix=new", "n", new}, {true, "ann 1 team=dev;ann 2 prefix=ne;ann 3 kind=service", "n", new},
		{false, "ann 12", "n", new}, {false, "ann 13", "n", new}, {false, "ann 23", "n", new}, {false, "ann 123 team=lab", "n", new}, {false, "ann 123 team=ops", "n", new}, {false, "ann 123 prefix=new-", "n", new}, {false, "ann 12 team=dev;ann 3 team=lab", "n", new},
		// Of what is there, and not wanted: api is in dev.
		{true, "ann 123 team=dev", "api", ""}, {true, "ann 123 prefix=a", "api", ""},
		{false, "ann 12 team=dev", "api", ""}, {false, "ann 13 team=dev", "api", ""}, {false, "ann 23 team=dev", "api", ""}, {false, "ann 3", "api", ""}, {false, "ann 123 team=lab", "api", ""}, {false, "ann 123 prefix=b", "api", ""},
		// Of what is there, and wanted in another team: each in its own.
		{true, "ann 123 team=dev;ann 123 team=ops", "api", deskText("api ops 1,1,0,1,,")},
		{false, "ann 123 team=dev", "api", deskText("api ops 1,1,0,1,,")}, {false, "ann 123 team=ops", "api", deskText("api ops 1,1,0,1,,")},
		{false, "ann 123 team=dev;ann 12 team=ops", "api", deskText("api ops 1,1,0,1,,")}, {false, "ann 13 team=dev;ann 123 team=ops", "api", deskText("api ops 1,1,0,1,,")},
		// Of what is there in a team under the wanted one, or over it.
		{true, "ann 123 team=dev", "web", deskText("web dev 1,1,0,1,,")}, {true, "ann 123 team=dev", "api", deskText("api lab 1,1,0,1,,")},
		{false, "ann 123 team=lab", "web", deskText("web dev 1,1,0,1,,")}, {false, "ann 123 team=lab", "api", deskText("api lab 1,1,0,1,,")},
		// Of what is Ending: old is in dev, cron in ops.
		{true, "ann 123 team=dev", "old", ""}, {false, "ann 123 team=ops", "old", ""}, {false, "ann 12 team=dev", "old", ""}, {true, "ann 123 team=ops", "cr", ""}, {false, "ann 123 team=dev", "cr", ""},
		// One of several.
		{true, "ann 123 team=dev", "", deskText("new dev 1,1,0,1,,") + deskBlock("cron") + deskBlock("log")}, {false, "ann 123 team=dev", "", deskText("new dev 1,1,0,1,,") + deskBlock("cron")}, {false, "ann 123 team=dev", "", deskText("new dev 1,1,0,1,,") + deskBlock("log")},
		{false, "ann 123 team=dev", "n", deskText("na dev 1,1,0,1,,", "nb ops 1,1,0,1,,", "nc dev 1,1,0,1,,")}, {false, "ann 123 team=dev", "n", deskText("na ops 1,1,0,1,,", "nb dev 1,1,0,1,,")},
		// Of what is odd, or nobody's: no right is needed.
		{true, "bob 1", "api", deskBlock("api")}, {true, "bob 1", "n", deskBlock("new")}, {true, "bob 1", "n", ""}, {true, "ann 123 prefix=w", "w", deskText("web lab 1,1,0,1,,")}, {true, "bob 1", "n", deskText("api ops 1,1,0,1,,")},
		{false, "bob 1", "api", ""}, {false, "bob 1", "api", deskBlock("apis")}, {false, "bob 1", "api", deskBlock("api") + deskText("apis dev 1,1,0,1,,")},
	} {
		with := []booksTurn{deskGrants(strings.Split(c.rules, ";")...)}
		checkCan(t, []deskCan{{fmt.Sprintf("%s, for %q, %q", c.rules, c.prefix, c.text), c.can, deskAlone(c.prefix, c.text), with}})
	}
	// To each by what is granted to them: it does not matter what others may.
	two := func(one, other string) []desk {
		list := desksOf("api", "web")
		list[0].Who, list[1].Who = one, other
		return list
	}
	with := []booksTurn{deskGrants("ann 123 prefix=api", "bob 123 prefix=web", "cy 123")}
	checkCan(t, []deskCan{
		{"ann and bob", true, two("ann", "bob"), with}, {"cy and bob", true, two("cy", "bob"), with}, {"cy and cy", true, two("cy", "cy"), with},
		{"bob and ann", false, two("bob", "ann"), with}, {"ann and ann", false, two("ann", "ann"), with}, {"bob and bob", false, two("bob", "bob"), with}, {"eve and cy", false, two("eve", "cy"), with},
	})
}

func TestDeskEnoughHolds(t *testing.T) {
	nowhere := deskAlone("n", deskText("new dev 1,1,0,1,,"))
	holds := func(at int, list ...string) []booksTurn {
		return []booksTurn{ofObject(at, func(o *impl.GateObject) { o.Holds = list })}
	}
	for at, o := range deskFleet().Gate.Objects {
		for _, list := range []texts{{"audit"}, {"zoo"}, {"f"}, {"fleets"}, {"audit", "zoo"}} {
			if slices.Contains(o.Holds, "fleet") {
				list = append(list, "fleet")
				slices.Sort(list)
			}
			checkCan(t, []deskCan{
				{fmt.Sprint(o.Name, " of no desk with ", list), false, nowhere, holds(at, list...)},
				{fmt.Sprint(o.Name, " and no desk, with ", list), false, nil, holds(at, list...)},
				{fmt.Sprint(o.Name, " of a desk with ", list), false, deskAlone("", deskBut()), holds(at, list...)},
				{fmt.Sprint(o.Name, ", odd, with ", list), false, deskAlone("", deskBut()+deskBlock("cron")+deskBlock("old")), holds(at, list...)},
			})
		}
	}
	checkCan(t, []deskCan{{"an Ending one without a hold", true, nowhere, holds(hallBin)}, {"an Ending one with fleet", true, nowhere, nil}})
	checkEnough(t, "hallBooks", hallHouse(), hallBooks(), nil, false)
}

func TestDeskEnoughRoom(t *testing.T) {
	wants := func(services ...string) []desk { return deskAlone("n", deskText(services...)) }
	as := func(door string, services ...string) []desk {
		return []desk{atDoor(door, annsDesk("n", deskText(services...)))}
	}
	all := func(services ...string) []desk { return deskAlone("", deskText(services...)) }
	api := func(text string) []desk { return deskAlone("api", text) }
	checkCan(t, []deskCan{
		{"all that is left of dev", true, wants("new dev 1,5,1,1,,"), nil},
		{"one more", false, wants("new dev 1,6,1,1,,"), nil},
		{"one more by the over", false, wants("new dev 1,5,1,2,,"), nil},
		{"all by the over", true, wants("new dev 1,0,1,6,,"), nil},
		{"all, following", true, wants("new dev 1,5,1,1,20,"), nil},
		{"one more, following", false, wants("new dev 1,6,1,1,20,"), nil},
		{"all, by two", true, wants("na dev 1,2,1,1,,", "nb dev 1,2,1,1,,"), []booksTurn{deskWithout("bin")}},
		{"all of dev, by one in lab", true, wants("new lab 1,5,1,1,,"), nil},
		{"one more, in lab", false, wants("new lab 1,6,1,1,,"), nil},
		{"all of ops", true, wants("new ops 1,1,0,1,,"), nil},
		{"one more, in ops", false, wants("new ops 1,2,0,1,,"), nil},
		{"more in ops than there is of dev", true, wants("new ops 1,10,0,10,,"), []booksTurn{deskMost(2, 28)}},
		{"more in ops than there is of dev, by one", false, wants("new ops 1,10,0,10,,"), []booksTurn{deskMost(2, 27)}},
		{"no ledgers", true, wants("new dev 1,10,0,10,,"), []booksTurn{ofGate(func(g *impl.GateBook) { g.Ledgers, g.Purses = nil, nil })}},
		// Services of lab: those of dev do not count.
		{"as many in lab as may be", true, all("na lab 1,0,0,1,,", "nb lab 1,0,0,1,,", "nc lab 1,0,0,1,,", "nd lab 1,0,0,1,,"), nil},
		{"one too many in lab", false, all("na lab 1,0,0,1,,", "nb lab 1,0,0,1,,", "nc lab 1,0,0,1,,", "nd lab 1,0,0,1,,", "ne lab 1,0,0,1,,"), nil},
		{"more in dev", true, all("na dev 1,0,0,1,,", "nb dev 1,0,0,1,,", "nc dev 1,0,0,1,,", "nd dev 1,0,0,1,,", "ne dev 1,0,0,1,,"), nil},
		{"the last but one in lab", true, wants("new lab 1,0,0,1,,"), []booksTurn{deskMost(1, 3)}},
		{"one too many in lab, with those of no desk", false, wants("new lab 1,0,0,1,,"), []booksTurn{deskMost(1, 2)}},
		// Whose a purse is.
		{"all, with its own purse", true, as("d1", "new dev 1,9,1,1,,"), nil},
		{"one more, with its own purse", false, as("d1", "new dev 1,9,1,2,,"), nil},
		{"all, with another purse", true, as("d2", "new dev 1,7,1,1,,"), nil},
		{"one more, with another purse", false, as("d2", "new dev 1,8,1,1,,"), nil},
		{"all of ops, with its own purse", true, as("d1", "new ops 1,4,0,1,,"), nil},
		{"one more of ops, with its own purse", false, as("d1", "new ops 1,5,0,1,,"), nil},
		{"all, with both purses", true, []desk{annsDesk("n", deskText("na dev 1,10,0,2,,")), atDoor("d2", annsDesk("m", ""))}, nil},
		{"one more, with both purses", false, []desk{annsDesk("n", deskText("na dev 1,10,0,3,,")), atDoor("d2", annsDesk("m", ""))}, nil},
		{"a purse more", false, wants("new ops 1,1,0,1,,"), []booksTurn{ofGate(func(g *impl.GateBook) { g.Purses[1].Amount = 4 }), hallAllFree}},
		{"a purse of another ledger", true, wants("new ops 1,1,0,1,,"), []booksTurn{ofGate(func(g *impl.GateBook) { g.Purses[0].Amount = 5 }), hallAllFree}},
		// What a desk has counts as it is to be, or not at all.
		{"all of dev, all anew", true, all("na dev 1,10,0,10,,", "nb dev 1,3,0,1,,"), nil},
		{"one more, all anew", false, all("na dev 1,10,0,10,,", "nb dev 1,3,0,2,,"), nil},
		{"all, by what is there", true, deskAlone("", deskBut("api dev 5,10,1,6,,")), nil},
		{"one more, by what is there", false, deskAlone("", deskBut("api dev 5,10,1,7,,")), nil},
		{"all, by another team", true, api(deskText("api ops 1,1,0,1,,")), nil},
		{"one more, by another team", false, api(deskText("api ops 1,2,0,1,,")), nil},
		{"in place of what is not wanted", true, api(deskText("apis dev 1,10,0,1,,")), nil},
		{"one more than that", false, api(deskText("apis dev 1,10,0,2,,")), nil},
		{"in place of what is Ending", true, deskAlone("old", deskText("olds dev 1,8,0,1,,")), nil},
		{"one more than that is", false, deskAlone("old", deskText("olds dev 1,9,0,1,,")), nil},
		{"beside what is odd", true, api(deskBlock("api") + deskText("apis dev 1,5,0,1,,")), nil},
		{"one more beside what is odd", false, api(deskBlock("api") + deskText("apis dev 1,6,0,1,,")), nil},
		{"beside one odd that is not there", true, api(deskBlock("apia") + deskText("apis dev 1,10,0,1,,")), nil},
		{"two desks, all", true, []desk{annsDesk("n", deskText("na dev 1,3,0,1,,")), atDoor("d3", annsDesk("api", deskText("api dev 1,10,0,1,,")))}, nil},
		{"two desks, one more", false, []desk{annsDesk("n", deskText("na dev 1,3,0,1,,")), atDoor("d3", annsDesk("api", deskText("api dev 1,10,0,2,,")))}, nil},
		{"what another desk does not want any more", true, []desk{annsDesk("n", deskText("na dev 1,10,0,5,,")), atDoor("d3", annsDesk("api", ""))}, nil},
		{"one more than that leaves", false, []desk{annsDesk("n", deskText("na dev 1,10,0,6,,")), atDoor("d3", annsDesk("api", ""))}, nil},
	})
}

// deskWithout takes an object that has no service out of the books.
func deskWithout(name string) booksTurn {
	return func(b *twoBooks) {
		b.Gate.Objects = slices.DeleteFunc(b.Gate.Objects, func(o impl.GateObject) bool { return o.Name == name })
		hallSettle(b)
	}
}

// deskMost sets the bound of a ledger.
func deskMost(place, most int) booksTurn {
	return func(b *twoBooks) {
		b.Gate.Ledgers[place].Most = most
		hallAllFree(b)
	}
}

// Only one of what is added up is there.
func TestDeskEnoughRoomAlone(t *testing.T) {
	h := hallHouse()
	for more, can := range []bool{true, false} {
		want := deskText("new dev 1," + strconv.Itoa(4+more) + ",0,1,,")
		checkEnough(t, "what is wanted", h, impl.HallState(h, texts{"bound 1 dev copies 5"}), deskAlone("n", want), can)
		purse := texts{"bound 1 dev copies 8", "draw 1 d1 dev copies 3"}
		checkEnough(t, "a purse", h, impl.HallState(h, purse), deskAlone("n", want), can)
		made := texts{"bound 1 dev copies 8", "draw 1 d1 dev copies 3", "slip 1 d1 3 web:0 ann make web dev fleet 1,2,0,1,,"}
		checkEnough(t, "an object", h, impl.HallState(h, made), deskAlone("n", want), can)
	}
	full := texts{"bound 1 dev copies 3", "draw 1 d1 dev copies 3"}
	checkEnough(t, "all is in a purse", h, impl.HallState(h, full), deskAlone("n", ""), true)
	full = append(full, "slip 1 d1 3 web:0 ann make web dev fleet 1,2,0,1,,")
	checkEnough(t, "all is in an object", h, impl.HallState(h, full), deskAlone("n", ""), true)
	none := texts{"bound 1 dev copies 0"}
	checkEnough(t, "none, and nothing wanted", h, impl.HallState(h, none), deskAlone("n", ""), true)
	checkEnough(t, "none, and one wanted", h, impl.HallState(h, none), deskAlone("n", deskText("new dev 1,0,0,1,,")), false)
	checkEnough(t, "none, and one wanted elsewhere", h, impl.HallState(h, none), deskAlone("n", deskText("new ops 1,0,0,1,,")), true)
	checkEnough(t, "none of another resource", h, impl.HallState(h, texts{"bound 1 dev gold 0"}), deskAlone("n", deskText("new dev 1,9,0,1,,")), true)
}

// deskSmall are so many services that weigh as little as can be.
func deskSmall(prefix string, many int) string {
	text := ""
	for i := range many {
		text += deskText(prefix + strconv.Itoa(i) + " dev 1,0,0,1,,")
	}
	return text
}

func TestDeskEnoughServices(t *testing.T) {
	for many := range 11 {
		what := fmt.Sprint(many, " wanted")
		checkCan(t, []deskCan{
			{what + ", beside seven", many <= 1, deskAlone("n", deskSmall("n", many)), nil},
			{what + ", of all", many <= 8, deskAlone("", deskSmall("n", many)), nil},
			{what + ", in place of one", many <= 2, deskAlone("api", deskSmall("api", many)), nil},
			{what + ", in place of one that is Ending", many <= 2, deskAlone("bin", deskSmall("bin", many)), nil},
			{what + ", beside one that is odd", many <= 1, deskAlone("api", deskBlock("api")+deskSmall("api", many)), nil},
			{what + ", with odd ones", many <= 1, deskAlone("n", deskBlock("new")+deskBlock("next")+deskSmall("n", many)), nil},
			{what + ", and one", many <= 1, []desk{annsDesk("n", deskSmall("n", many)), atDoor("d3", annsDesk("api", deskText("api dev 5,3,1,2,,")))}, nil},
			{what + ", and one there no more", many <= 2, []desk{annsDesk("n", deskSmall("n", many)), atDoor("d3", annsDesk("api", ""))}, nil},
			{what + ", as many in all", many <= 8, nil, []booksTurn{hallHeap(many), deskFleetOnly}},
		})
	}
}

// deskLedgers gives the books so many ledgers, those that they have among them.
func deskLedgers(many int) booksTurn {
	return func(b *twoBooks) {
		for i := 0; len(b.Gate.Ledgers) < many; i++ {
			b.Gate.Ledgers = append(b.Gate.Ledgers, impl.GateLedger{Team: "ops", Resource: "r" + strconv.Itoa(i), Most: 5})
		}
		hallAllFree(b)
	}
}

func TestDeskEnoughPurses(t *testing.T) {
	at := func(doors ...string) []desk {
		list := desksOf("m", "n", "o", "p")[:len(doors)]
		for i, door := range doors {
			list[i].Door = door
		}
		return list
	}
	for many := 3; many <= 24; many++ {
		what, with := fmt.Sprint(many, " purses"), []booksTurn{deskPurses(many)}
		checkCan(t, []deskCan{
			{what + ", no desk", true, nil, with},
			{what + ", one desk", many+3 <= 24, at("d3"), with},
			{what + ", one desk that has two", many-2+3 <= 24, at("d1"), with},
			{what + ", one desk that has one", many-1+3 <= 24, at("d2"), with},
			{what + ", two desks", many+6 <= 24, at("d3", "d4"), with},
			{what + ", two desks, of which one has two", many-2+6 <= 24, at("d4", "d1"), with},
			{what + ", two desks that have three", many-3+6 <= 24, at("d2", "d1"), with},
			{what + ", three desks", many+9 <= 24, at("d3", "d4", "d5"), with},
			{what + ", four desks", many+12 <= 24, at("d3", "d4", "d5", "d6"), with},
			{what + ", four desks that have three", many-3+12 <= 24, at("d3", "d1", "d5", "d2"), with},
		})
	}
	for many := 3; many <= 10; many++ {
		what, with := fmt.Sprint(many, " ledgers"), []booksTurn{deskLedgers(many)}
		checkCan(t, []deskCan{
			{what + ", no desk", true, nil, with},
			{what + ", one desk", true, at("d3"), with},
			{what + ", two desks", true, at("d3", "d4"), with},
			{what + ", three desks", 3+3*many <= 24, at("d3", "d4", "d5"), with},
			{what + ", three desks that have all", 3*many <= 24, at("d1", "d2", "d3"), with},
			{what + ", four desks", 3+4*many <= 24, at("d3", "d4", "d5", "d6"), with},
			{what + ", four desks that have all", 4*many <= 24, at("d3", "d2", "d1", "d6"), with},
		})
	}
}

// deskTighten binds the ledgers to what is to be of them, or mostly so, as far as what is used and drawn leaves room for that.
func (d *dice) deskTighten(h house, b *twoBooks, list []desk) {
	less := pick(d, 0, 1)
	for i := range b.Gate.Ledgers {
		ledger := &b.Gate.Ledgers[i]
		most := max(ledger.Most-ledger.Free, deskSumBy(h, *b, list).of(h, *ledger)-less*d.roll(2))
		ledger.Free += most - ledger.Most
		ledger.Most = most
	}
}

// deskCauses count why it cannot be what sheets say, where there is but one cause.
type deskCauses struct {
	can, notOk, barred, held, over, objects, purses int
}

func (n *deskCauses) add(h house, b twoBooks, list []desk) {
	sum := deskSumBy(h, b, list)
	if !sum.ok {
		n.notOk++
		return
	}
	causes, cause := 0, &n.can
	for _, c := range []struct {
		is    bool
		count *int
	}{
		{len(sum.barred) > 0, &n.barred}, {deskHeld(b) > 0, &n.held}, {sum.over(h, b) > 0, &n.over},
		{len(sum.toBe) > 8, &n.objects}, {len(sum.strange)+len(list)*len(b.Gate.Ledgers) > 24, &n.purses},
	} {
		if c.is {
			causes, cause = causes+1, c.count
		}
	}
	if causes < 2 {
		*cause++
	}
}

// By a second reading, over made-up houses, books and desks.
func TestDeskEnoughMadeUp(t *testing.T) {
	t.Parallel()
	d := dice(480)
	var n deskCauses
	for i := range 1500 {
		h := d.hallTown()
		b := d.hallBooksOf(h)
		if d.roll(5) > 0 {
			deskFleetOnly(&b)
		}
		list := d.deskCrew(h, d.roll(5))
		for k := range list {
			switch d.roll(3) {
			case 0:
				list[k].Text = sheetTextAsRead(d.deskSheetFor(h, b))
			case 1:
				list[k].Text = sheetTextAsRead(d.deskSheetAsIs(h, b)) + deskBlock(list[k].Prefix+"zz", "team "+pick(&d, h.Teams...).Name, "want 3")
				list[k].Door = "e" + strconv.Itoa(k)
			}
		}
		if d.roll(4) > 0 {
			d.deskTighten(h, &b, list)
		}
		switch d.roll(16) {
		case 0:
			d.hallSpoilBooks(&b)
		case 1:
			list = append(list, d.deskOf(d.deskSheetAsIs(h, b)))
		case 2:
			list = append(list, list...)
		}
		checkEnough(t, "made up", h, b, list, deskIsEnough(h, b, list))
		n.add(h, b, list)
		if t.Failed() {
			t.Fatalf("%d: %+v by %+v", i, list, b)
		}
	}
	if min(n.can, n.notOk) < 200 || min(n.barred, n.held, n.objects) < 60 || min(n.over, n.purses) < 15 {
		t.Errorf("too few made-up cases: %+v", n)
	}
}
