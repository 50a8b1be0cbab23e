package tests

import (
	"math"
	"slices"
	"testing"

	"loop.example/wharfdesk/impl"
)

// hallSlipBy is the document's sentence on what a door makes of an ask.
func hallSlipBy(h house, b twoBooks, number int, door string, a ask) (entry, impl.GateSaid) {
	if !hallIsOk(h, b) || !names.MatchString(door) {
		return entry{}, refused(1, 0)
	}
	if a.Verb == 1 && !slices.Contains(a.Holds, "fleet") || a.Verb == 4 && a.Hold == "fleet" {
		return entry{}, refused(15, 0)
	}
	s, said := slipped(hallLawOf(h.Teams), b.Gate, door, a)
	if said.Code != 0 {
		return entry{}, said
	}
	e := entry{Kind: 1, Number: number, Slip: s}
	if hallFormAsRead(e) == "" {
		return entry{}, refused(16, 0)
	}
	return e, impl.GateSaid{}
}

// checkSlipOf says what a door makes of an ask.
func checkSlipOf(t *testing.T, what string, h house, b twoBooks, number int, door string, a ask, want entry, said impl.GateSaid) {
	t.Helper()
	h, b, a = spread(h), spread(b), spread(a)
	houseWas, booksWere, askWas := whole(h), whole(b), whole(a)
	got, told := impl.HallSlipOf(h, b, number, door, a)
	if told != said || !same(got, want) {
		t.Errorf("%s: %+v and %+v, not %+v and %+v", what, told, got, said, want)
	}
	byReading, read := hallSlipBy(h, b, number, door, a)
	if read != said || !same(byReading, want) {
		t.Errorf("%s is read as %+v and %+v", what, read, byReading)
	}
	if !same(whole(h), houseWas) || !same(whole(b), booksWere) || !same(whole(a), askWas) {
		t.Errorf("%s: an argument is changed", what)
	}
	again, _ := impl.HallSlipOf(h, b, number, door, a)
	newMemory(t, what, got, h, b, a, again)
}

// hallSlipCase is an ask of ann's through d1, with the Number 7, by hallBooks as turned: it makes the entry of this form, or is refused.
type hallSlipCase struct {
	what string
	ask  ask
	form string
	said impl.GateSaid
	with []booksTurn
}

func hallMakes(what string, a ask, form string, with ...booksTurn) hallSlipCase {
	return hallSlipCase{what: what, ask: a, form: form, with: with}
}

func hallMakesNone(what string, a ask, said impl.GateSaid, with ...booksTurn) hallSlipCase {
	return hallSlipCase{what: what, ask: a, said: said, with: with}
}

func checkSlipCases(t *testing.T, list []hallSlipCase) {
	t.Helper()
	for _, c := range list {
		a := c.ask
		if a.Who == "" {
			a.Who = "ann"
		}
		b := hallTurned(c.with...)
		if !hallIsOk(hallHouse(), b) {
			t.Errorf("%s: the books are not ok: %+v", c.what, b)
		}
		var want entry
		if c.said.Code == 0 {
			e, ok := impl.HallRead(c.form)
			if !ok {
				t.Errorf("%s: %q is not read", c.what, c.form)
			}
			want = entry{Kind: impl.HallSlip, Number: 7, Slip: e.Slip}
		}
		checkSlipOf(t, c.what, hallHouse(), b, 7, "d1", a, want, c.said)
	}
}

// Asks of the six verbs.
func asksMake(name, team string, list texts, values ...string) ask {
	return ask{Verb: impl.GateMake, Kind: "service", Name: name, Team: team, Holds: list, Values: values}
}

func asksChange(name string, seen int, values ...string) ask {
	return ask{Verb: impl.GateChange, Kind: "service", Name: name, Seen: seen, Values: values}
}

func asksEnd(name string, seen int) ask {
	return ask{Verb: impl.GateEnd, Kind: "service", Name: name, Seen: seen}
}

func asksLetGo(name, hold string) ask {
	return ask{Verb: impl.GateLetGo, Kind: "service", Name: name, Hold: hold}
}

func asksGive(to string, rule gateRule) ask {
	return ask{Verb: impl.GateGive, To: to, Rule: rule}
}

func asksTake(number int) ask {
	return ask{Verb: impl.GateTake, Number: number}
}

func by(who string, a ask) ask {
	a.Who = who
	return a
}

func TestHallSlipOf(t *testing.T) {
	fleet := texts{"fleet"}
	checkSlipCases(t, []hallSlipCase{
		hallMakes("to make", asksMake("new", "dev", fleet, "1", "2", "", "", "", ""), "slip 7 d1 4 new:0 ann make new dev fleet 1,2,,,,"),
		hallMakes("to make with other holds", asksMake("new", "lab", texts{"audit", "fleet", "zoo"}, "1", "1", "9", "2", "50", ""), "slip 7 d1 4 new:0 ann make new lab audit,fleet,zoo 1,1,9,2,50,"),
		hallMakes("to make what is owned", asksMake("new", "ops", fleet, "1", "2", "", "", "", "web"), "slip 7 d1 4 new:0,web:13 ann make new ops fleet 1,2,,,,web"),
		hallMakes("to make what no purse pays", asksMake("new", "dev", fleet, "1", "10", "", "10", "", ""), "slip 7 d1 4 new:0 ann make new dev fleet 1,10,,10,,"),
		hallMakes("to make a ninth service", asksMake("new", "dev", fleet, "1", "2", "", "", "", ""), "slip 7 d1 4 new:0 ann make new dev fleet 1,2,,,,", hallCrowd(8)),
		hallMakes("to make, with no change of Stew left", asksMake("new", "dev", fleet, "1", "2", "", "", "", ""), "slip 7 d1 4 new:0 ann make new dev fleet 1,2,,,,", stewAt(1000000)),
		hallMakes("to make, by another", by("bob", asksMake("w-1", "lab", fleet, "1", "2", "", "", "", "")), "slip 7 d1 4 w-1:0 bob make w-1 lab fleet 1,2,,,,"),
		hallMakes("to change", asksChange("api", 7, "6", "2", "", "", "", ""), "slip 7 d1 4 api:7 ann change api 7 6,2,,,,"),
		hallMakes("to change, whatever was seen", asksChange("api", 0, "6", "2", "", "", "", ""), "slip 7 d1 4 api:7 ann change api 0 6,2,,,,"),
		hallMakes("to change to what it is", asksChange("db", 0, "2", "4", "0", "1", "10", "api"), "slip 7 d1 4 db:8 ann change db 0 2,4,0,1,10,api"),
		hallMakes("to change its owner", asksChange("db", 8, "2", "4", "0", "1", "10", "web"), "slip 7 d1 4 db:8,web:13 ann change db 8 2,4,0,1,10,web"),
		hallMakes("to leave an owner that ends", asksChange("log", 0, "3", "9", "", "", "", "cron"), "slip 7 d1 4 log:10 ann change log 0 3,9,,,,cron"),
		hallMakes("to own itself", asksChange("api", 0, "6", "2", "", "", "", "api"), "slip 7 d1 4 api:7,api:7 ann change api 0 6,2,,,,api"),
		hallMakes("to end", asksEnd("web", 13), "slip 7 d1 4 web:13 ann end web 13"),
		hallMakes("to end, by another", by("cy", asksEnd("web", 0)), "slip 7 d1 4 web:13 cy end web 0"),
		hallMakes("to let go", asksLetGo("api", "audit"), "slip 7 d1 4 api:7 ann letgo api audit"),
		hallMakes("to let go of what ends", asksLetGo("old", "audit"), "slip 7 d1 4 old:11 ann letgo old audit"),
		hallMakes("to give", asksGive("dan", gateRule{Verbs: []int{1, 5}, Kind: "service", Team: "lab", Prefix: "w-"}), "slip 7 d1 4 * ann give dan 15 service lab w-"),
		hallMakes("to give everything", asksGive("dan", gateRule{Verbs: []int{1, 2, 3, 4, 5}}), "slip 7 d1 4 * ann give dan 12345 * * *"),
		hallMakes("to take", asksTake(4), "slip 7 d1 4 * ann take 4"),
		hallMakes("other grants", asksTake(4), "slip 7 d1 19 * ann take 4", ofGate(func(g *impl.GateBook) { g.Given = 19 })),
	})
}

// The hold of the hall is looked for ahead of all that the gate looks for.
func TestHallSlipOfHold(t *testing.T) {
	none := refused(15, 0)
	never := gateAt(1000000)
	checkSlipCases(t, []hallSlipCase{
		hallMakesNone("to make without holds", asksMake("new", "dev", nil, "1", "2", "", "", "", ""), none),
		hallMakesNone("to make with another hold", asksMake("new", "dev", texts{"audit"}, "1", "2", "", "", "", ""), none),
		hallMakesNone("to make with holds like it", asksMake("new", "dev", texts{"flee", "fleet-", "fleets"}, "1", "2", "", "", "", ""), none),
		hallMakesNone("to make without it, which is not ok", asksMake("new", "ghost", texts{"b", "a"}, "1"), none),
		hallMakesNone("to make without it nothing at all", ask{Verb: impl.GateMake}, none),
		hallMakesNone("to make without it, the hold to let go", ask{Verb: impl.GateMake, Hold: "fleet"}, none),
		hallMakesNone("to make without it what is there", asksMake("web", "lab", nil, "1", "2", "", "", "", ""), none),
		hallMakesNone("to make without it what they may not", by("eve", asksMake("new", "dev", nil, "1", "2", "", "", "", "")), none),
		hallMakesNone("to make without it, with values that do not fit", asksMake("new", "dev", nil, "0", "2", "", "", "", ""), none),
		hallMakesNone("to make without it, with no versions left", asksMake("new", "dev", nil, "1", "2", "", "", "", ""), none, never),
		hallMakesNone("to make it of another Kind", ask{Verb: impl.GateMake, Kind: "berth", Name: "new"}, none),
		hallMakesNone("to let it go", asksLetGo("web", "fleet"), none),
		hallMakesNone("to let it go of what has it not", asksLetGo("bin", "fleet"), none),
		hallMakesNone("to let it go of nothing", asksLetGo("ghost", "fleet"), none),
		hallMakesNone("to let it go, which is not ok", ask{Verb: impl.GateLetGo, Hold: "fleet", Number: 9}, none),
		hallMakesNone("to let it go, which they may not", by("eve", asksLetGo("web", "fleet")), none),
		hallMakesNone("to let it go, with no versions left", asksLetGo("web", "fleet"), none, never),
		// No other verb is about holds.
		hallMakesNone("to change with the hold", ask{Verb: impl.GateChange, Kind: "service", Name: "web", Values: texts{"1", "2", "", "", "", ""}, Hold: "fleet"}, refused(2, 0)),
		hallMakesNone("to end with the hold", ask{Verb: impl.GateEnd, Kind: "service", Name: "web", Hold: "fleet"}, refused(2, 0)),
		hallMakesNone("to let go with the hold among others", ask{Verb: impl.GateLetGo, Kind: "service", Name: "api", Hold: "audit", Holds: texts{"fleet"}}, refused(2, 0)),
		hallMakesNone("no verb, without the hold", ask{Kind: "service", Name: "web", Hold: "fleet"}, refused(2, 0)),
	})
}

// What the gate tells is told, with its Place and Version.
func TestHallSlipOfRefused(t *testing.T) {
	fleet := texts{"fleet"}
	makes := func(values ...string) ask { return asksMake("new", "dev", fleet, values...) }
	grants := ofGate(func(g *impl.GateBook) {
		g.Grants = hallGrants(24)
		g.Grants[0].To, g.Grants[0].Rule.Verbs = "ann", []int{1, 2, 3, 4, 5}
		g.Now, g.Given = 40, 24
	})
	never := gateAt(1000000)
	checkSlipCases(t, []hallSlipCase{
		hallMakesNone("no verb", ask{}, refused(2, 0)),
		hallMakesNone("a verb that there is not", ask{Verb: 7}, refused(2, 0)),
		hallMakesNone("Who is no name", by("Ann", asksEnd("web", 0)), refused(2, 0)),
		hallMakesNone("no such team", asksMake("new", "ghost", fleet, "1", "2", "", "", "", ""), refused(2, 0)),
		hallMakesNone("holds that are not ascending", asksMake("new", "dev", texts{"fleet", "audit"}, "1", "2", "", "", "", ""), refused(2, 0)),
		hallMakesNone("too many holds", asksMake("new", "dev", texts{"a", "b", "c", "fleet"}, "1", "2", "", "", "", ""), refused(2, 0)),
		hallMakesNone("too few values", makes("1", "2", "", "", ""), refused(2, 0)),
		hallMakesNone("another Kind", ask{Verb: impl.GateEnd, Kind: "berth", Name: "web"}, refused(2, 0)),
		hallMakesNone("seen below 0", asksEnd("web", -1), refused(2, 0)),
		hallMakesNone("a rule that is not ok", asksGive("dan", gateRule{}), refused(2, 0)),
		hallMakesNone("the Number 0", asksTake(0), refused(2, 0)),
		hallMakesNone("there already", asksMake("web", "dev", fleet, "1", "2", "", "", "", ""), refused(3, 0)),
		hallMakesNone("not there, to change", asksChange("new", 0, "1", "2", "", "", "", ""), refused(3, 0)),
		hallMakesNone("not there, to end", asksEnd("new", 0), refused(3, 0)),
		hallMakesNone("not there, to let go", asksLetGo("new", "audit"), refused(3, 0)),
		hallMakesNone("not there, to take", asksTake(5), refused(3, 0)),
		hallMakesNone("they may not make", by("cy", makes("1", "2", "", "", "", "")), refused(4, 0)),
		hallMakesNone("they may not change", by("cy", asksChange("web", 0, "1", "2", "", "", "", "")), refused(4, 0)),
		hallMakesNone("they may not end, there", by("cy", asksEnd("log", 0)), refused(4, 0)),
		hallMakesNone("they may not let go", by("bob", asksLetGo("api", "audit")), refused(4, 0)),
		hallMakesNone("they may not give", by("cy", asksGive("dan", gateRule{Verbs: []int{3}})), refused(4, 0)),
		hallMakesNone("they may not take", by("bob", asksTake(4)), refused(4, 0)),
		hallMakesNone("seen otherwise, to change", asksChange("api", 6, "1", "2", "", "", "", ""), impl.GateSaid{Code: 5, Version: 7}),
		hallMakesNone("seen otherwise, to end", asksEnd("web", 99), impl.GateSaid{Code: 5, Version: 13}),
		hallMakesNone("Ending, to change", asksChange("cron", 9, "1", "2", "", "", "", ""), refused(6, 0)),
		hallMakesNone("Ending, to end", asksEnd("bin", 0), refused(6, 0)),
		hallMakesNone("an image that does not fit", makes("1001", "2", "", "", "", ""), refused(7, 0)),
		hallMakesNone("no most", makes("1", "", "", "", "", ""), refused(7, 1)),
		hallMakesNone("an over that does not fit", asksChange("api", 0, "1", "2", "0", "0", "", ""), refused(7, 3)),
		hallMakesNone("a link that is no name", makes("1", "2", "", "", "", "W"), refused(7, 5)),
		hallMakesNone("a link to nothing", makes("1", "2", "", "", "", "ghost"), refused(9, 5)),
		hallMakesNone("a link to what ends", asksChange("web", 0, "1", "2", "", "", "", "cron"), refused(9, 5)),
		hallMakesNone("no such hold", asksLetGo("web", "audit"), refused(11, 0)),
		hallMakesNone("as many objects as may be", makes("1", "2", "", "", "", ""), refused(11, 0), hallHeap(40)),
		hallMakesNone("as many grants as may be", asksGive("dan", gateRule{Verbs: []int{1}}), refused(11, 0), grants),
		hallMakesNone("no versions left, to make", makes("1", "2", "", "", "", ""), refused(11, 0), never),
		hallMakesNone("no versions left, to change", asksChange("api", 0, "6", "2", "", "", "", ""), refused(11, 0), never),
		hallMakesNone("no versions left, to end", asksEnd("web", 0), refused(11, 0), never),
		hallMakesNone("no versions left, to take", asksTake(4), refused(11, 0), never),
	})
}

// What is not ok is told ahead of all else; a Number that no form has, behind all else.
func TestHallSlipOfOrder(t *testing.T) {
	ends, lets, odd, ghost := by("ann", asksEnd("web", 0)), by("ann", asksLetGo("web", "fleet")), ask{}, by("ann", asksEnd("ghost", 0))
	bad := map[string]twoBooks{
		"Gate is not ok":    hallTurned(gateAt(1)),
		"Stew is not valid": hallTurned(stewAt(1)),
		"they are not tied": hallTurned(noService(hallWebService)),
	}
	for _, a := range []ask{ends, lets, odd, ghost} {
		for what, b := range bad {
			checkSlipOf(t, what, hallHouse(), b, 7, "d1", a, entry{}, refused(1, 0))
		}
		for what, h := range hallBadHouses() {
			checkSlipOf(t, what, h, hallBooks(), 7, "d1", a, entry{}, refused(1, 0))
			checkSlipOf(t, what+", and no books", h, twoBooks{}, 7, "d1", a, entry{}, refused(1, 0))
		}
		for _, door := range []string{"", "D1", "d 1", "d1\n", letters(17)} {
			checkSlipOf(t, "a door that is no name", hallHouse(), hallBooks(), 7, door, a, entry{}, refused(1, 0))
			checkSlipOf(t, "a door that is no name, and a Number that is none", hallHouse(), hallBooks(), 0, door, a, entry{}, refused(1, 0))
		}
	}
	slip := entry{Kind: impl.HallSlip, Slip: slip{Door: "d1", Ask: ends, Given: 4, Wants: []want{on("service", "web", 13)}}}
	for _, number := range []int{1, 2, 999999, 1000000} {
		slip.Number = number
		checkSlipOf(t, "a Number", hallHouse(), hallBooks(), number, "d1", ends, slip, impl.GateSaid{})
	}
	for _, number := range []int{0, -1, math.MinInt, 1000001, 9999999, math.MaxInt} {
		checkSlipOf(t, "a Number that is none", hallHouse(), hallBooks(), number, "d1", ends, entry{}, refused(16, 0))
		checkSlipOf(t, "a Number that is none, and the hold", hallHouse(), hallBooks(), number, "d1", lets, entry{}, refused(15, 0))
		checkSlipOf(t, "a Number that is none, and an ask that is not ok", hallHouse(), hallBooks(), number, "d1", odd, entry{}, refused(2, 0))
		checkSlipOf(t, "a Number that is none, and nothing to end", hallHouse(), hallBooks(), number, "d1", ghost, entry{}, refused(3, 0))
	}
	slip.Number, slip.Slip.Door = 7, letters(16)
	checkSlipOf(t, "a long door", hallHouse(), hallBooks(), 7, letters(16), ends, slip, impl.GateSaid{})
}

// hallLongHouse has names as long as they may be.
func hallLongHouse() house {
	return house{Teams: teamList{{Name: letters(16)}}, Grants: []impl.GateGrant{{Number: 1, To: letters(16), Rule: gateRule{Verbs: []int{1, 2, 3, 4, 5}}}}}
}

// checkSlipSize says that an ask makes an entry exactly if its form has at most 160 bytes, and tells that size.
func checkSlipSize(t *testing.T, what string, b twoBooks, number int, door string, a ask, wants ...want) int {
	t.Helper()
	a.Who = letters(16)
	want := entry{Kind: impl.HallSlip, Number: number, Slip: slip{Door: door, Ask: a, Given: 1, Wants: wants}}
	size := len(hallTextOf(want))
	if size > 160 {
		checkSlipOf(t, what, hallLongHouse(), b, number, door, a, entry{}, refused(16, 0))
	} else {
		checkSlipOf(t, what, hallLongHouse(), b, number, door, a, want, impl.GateSaid{})
	}
	return size
}

// A form has at most 160 bytes, whatever makes it long.
func TestHallSlipOfSize(t *testing.T) {
	sizes := map[int]int{}
	first := impl.HallFirst(hallLongHouse())
	name, team := letters(15)+"b", letters(16)
	values := texts{"1000", "10", "10", "10", "1000000", ""}
	for long := range 16 {
		a := asksMake(name, team, texts{"fleet", "g" + letters(long), "h" + letters(15)}, values...)
		sizes[checkSlipSize(t, "holds", first, 1, letters(16), a, on("service", name, 0))]++
	}
	for long := 1; long <= 16; long++ {
		a := asksMake(name, team, texts{"fleet", "g" + letters(13), "h" + letters(15)}, values...)
		sizes[checkSlipSize(t, "a door", first, 1, letters(long), a, on("service", name, 0))]++
		a = asksMake(letters(long), team, texts{"fleet", "g" + letters(15), "h" + letters(15)}, values...)
		sizes[checkSlipSize(t, "a name", first, 1, letters(10), a, on("service", letters(long), 0))]++
	}
	for _, number := range []int{1, 9, 10, 99, 100, 1000, 100000, 1000000} {
		for _, long := range []int{6, 7, 8, 9, 10, 11, 12, 13} {
			a := asksMake(name, team, texts{"fleet", "g" + letters(long), "h" + letters(15)}, values...)
			sizes[checkSlipSize(t, "a Number", first, number, letters(16), a, on("service", name, 0))]++
		}
	}
	b := hallLongBooks()
	for _, owner := range b.Gate.Objects {
		for long := 1; long <= 16; long++ {
			a := asksChange(b.Gate.Objects[0].Name, 999999, "1000", "10", "10", "10", "1000000", owner.Name)
			sizes[checkSlipSize(t, "an owner", b, 7, letters(long), a, on("service", b.Gate.Objects[0].Name, 999999), on("service", owner.Name, 999999))]++
		}
	}
	for size := 155; size <= 165; size++ {
		if sizes[size] == 0 {
			t.Errorf("no form would have %d bytes", size)
		}
	}
}

// hallLongBooks have objects with names of several sizes, the first one's being as long as one may be, and late versions.
func hallLongBooks() twoBooks {
	b := impl.HallFirst(hallLongHouse())
	b.Gate.Now, b.Stew.Now = 999999, 1
	for long := 16; long >= 1; long-- {
		name := string(rune('a'+16-long)) + letters(long-1)
		if len(b.Stew.Services) < 8 && long%2 == 0 {
			b.Gate.Objects = append(b.Gate.Objects, hallObject(name, letters(16), 999999, "1,0,0,1,,", "fleet"))
			b.Stew.Services = append(b.Stew.Services, impl.StewService{Name: name, Version: 1, Image: 1, Over: 1, Next: 1})
		}
	}
	return b
}
