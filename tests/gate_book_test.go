package tests

import (
	"cmp"
	"math"
	"slices"
	"strconv"
	"testing"

	"loop.example/wharfdesk/impl"
)

// fleetLaw has objects that weigh by their kind and by two fields of one resource, a link of every role, a default, a mend, and teams in teams.
func fleetLaw() impl.GateLaw {
	return impl.GateLaw{
		Shapes: []impl.GateShape{
			{Kind: "berth", Fields: []impl.GateField{
				{Name: "room", Kind: impl.GateNumber, Least: 1, Most: 64, Must: true, Weighs: "room"},
				{Name: "zone", Kind: impl.GateWord, Words: []string{"a", "b"}, Default: "a"},
			}},
			{Kind: "job", Fields: []impl.GateField{
				{Name: "need", Kind: impl.GateNumber, Least: 1, Most: 32, Default: "1", Weighs: "need"},
				{Name: "more", Kind: impl.GateNumber, Most: 9, Weighs: "need"},
				{Name: "mode", Kind: impl.GateWord, Words: []string{"big", "small"}, Fixed: true},
				{Name: "on", Kind: impl.GateLink, To: "berth", Role: impl.GateHolds},
				{Name: "of", Kind: impl.GateLink, To: "job", Role: impl.GateOwned},
				{Name: "by", Kind: impl.GateLink, To: "job", Role: impl.GateLeans},
			}},
		},
		Mends: mendList{{Kind: "job", Field: "need", When: "mode", Is: "big", Put: "8"}},
		Teams: fleetTeams(),
	}
}

func berth(name, team, room, zone string) impl.GateObject {
	return impl.GateObject{Kind: "berth", Name: name, Team: team, Values: []string{room, zone}, Version: 1}
}

func job(name, team string, values ...string) impl.GateObject {
	return impl.GateObject{Kind: "job", Name: name, Team: team, Values: values, Version: 3}
}

func at(version int, o impl.GateObject) impl.GateObject {
	o.Version = version
	return o
}

func ending(o impl.GateObject, holds ...string) impl.GateObject {
	o.Ending, o.Holds = true, holds
	return o
}

// fleetBook is ok by fleetLaw: dev uses 13 of need, of which lab and yard, which is in lab, use all, and 2 of job; ops uses 8 of room.
func fleetBook() impl.GateBook {
	return impl.GateBook{
		Now: 20, Tick: 5, Given: 7,
		Objects: []impl.GateObject{
			berth("b-1", "dev", "16", "a"),
			at(2, berth("b-2", "ops", "8", "b")),
			job("j-1", "lab", "8", "", "big", "b-1", "", ""),
			at(20, job("j-2", "yard", "3", "2", "small", "b-2", "j-1", "j-1")),
			ending(job("j-3", "ops", "1", "", "", "", "", "j-3"), "clean", "count"),
		},
		Grants: []impl.GateGrant{
			{Number: 1, To: "ann", Rule: rule("", 1, 2, 3, 4, 5)},
			{Number: 7, To: "bob", By: "ann", Rule: ofKind("job", ofTeam("lab", rule("j-", 1, 3)))},
		},
		Ledgers: []impl.GateLedger{
			{Team: "dev", Resource: "job", Most: 5, Free: 2},
			{Team: "dev", Resource: "need", Most: 30, Free: 10},
			{Team: "lab", Resource: "need", Most: 13, Free: 0},
			{Team: "ops", Resource: "room", Most: 20, Free: 0},
		},
		Purses: []impl.GatePurse{
			{Door: "d-1", Team: "dev", Resource: "job", Amount: 1, Until: 5},
			{Door: "d-1", Team: "dev", Resource: "need", Amount: 4, Until: 15},
			{Door: "d-2", Team: "dev", Resource: "need", Amount: 3, Until: 9},
			{Door: "d-2", Team: "ops", Resource: "room", Amount: 12, Until: 10},
		},
	}
}

// badLaws names things for which a law is not ok; each has the shapes, or the teams, of fleetLaw.
func badLaws() map[string]impl.GateLaw {
	list := map[string]impl.GateLaw{}
	for what, teams := range badTeams() {
		law := fleetLaw()
		law.Teams = teams
		list["teams: "+what] = law
	}
	for what, mends := range map[string]mendList{
		"a Kind that is not there": {{Kind: "ship", Field: "need", Put: "1"}},
		"a Put that does not fit":  {{Kind: "job", Field: "need", Put: "33"}},
		"one too many":             slices.Repeat(fleetLaw().Mends, impl.GateMaxMends+1),
		"without a row":            {{Kind: "job", Field: "need", From: "more"}, {Kind: "job", Field: "more", From: "need"}},
	} {
		law := fleetLaw()
		law.Mends = mends
		list["mends: "+what] = law
	}
	law := fleetLaw()
	slices.Reverse(law.Shapes)
	list["shapes out of order"] = law
	law = fleetLaw()
	law.Shapes[1].Fields[3].To = "ship"
	list["a link to no shape"] = law
	return list
}

func TestGateLawOk(t *testing.T) {
	full := fleetLaw()
	full.Mends = slices.Repeat(full.Mends, impl.GateMaxMends)
	full.Teams = manyTeams(impl.GateMaxTeams)
	for what, law := range map[string]impl.GateLaw{
		"nothing":       {},
		"the fleet's":   fleetLaw(),
		"shapes alone":  {Shapes: fleetLaw().Shapes},
		"teams alone":   {Teams: fleetTeams()},
		"without teams": {Shapes: fleetLaw().Shapes, Mends: fleetLaw().Mends},
		"as much of it": full,
	} {
		if !impl.GateLawOk(law) {
			t.Errorf("%s: not ok", what)
		}
	}
	for what, law := range badLaws() {
		if impl.GateLawOk(law) {
			t.Errorf("%s: ok", what)
		}
	}
	if impl.GateLawOk(impl.GateLaw{Mends: fleetLaw().Mends, Teams: fleetTeams()}) {
		t.Error("mends without shapes: ok")
	}
}

func number(name, weighs string) impl.GateField {
	return impl.GateField{Name: name, Kind: impl.GateNumber, Most: 99, Weighs: weighs}
}

// lawOf is of one shape of the kind box.
func lawOf(fields ...impl.GateField) impl.GateLaw {
	return impl.GateLaw{Shapes: []impl.GateShape{{Kind: "box", Fields: fields}}}
}

func box(values ...string) impl.GateObject {
	return impl.GateObject{Kind: "box", Name: "x", Team: "t", Values: values}
}

func TestGateWeighs(t *testing.T) {
	mixed := lawOf(number("a", "oil"), number("b", "box"), number("c", "oil"), number("d", ""), number("e", "tar"), number("f", "oil"))
	two := impl.GateLaw{Shapes: []impl.GateShape{{Kind: "can"}, {Kind: "box", Fields: []impl.GateField{number("a", "oil")}}, {Kind: "box", Fields: []impl.GateField{number("a", "tar"), number("b", "oil")}}}}
	for _, c := range []struct {
		what     string
		law      impl.GateLaw
		o        impl.GateObject
		resource string
		want     int
	}{
		{"a field", lawOf(number("a", "oil")), box("7"), "oil", 7},
		{"several fields of one Weighs", mixed, box("1", "20", "3", "40", "50", "6"), "oil", 10},
		{"one field of several", mixed, box("1", "20", "3", "40", "50", "6"), "tar", 50},
		{"the Kind and a Weighs", mixed, box("1", "20", "3", "40", "50", "6"), "box", 21},
		{"the Kind and a Weighs, not set", mixed, box("1", "", "3", "40", "50", "6"), "box", 1},
		{"the Kind alone", lawOf(number("a", "oil")), box("7"), "box", 1},
		{"the Kind, without fields", lawOf(), box(), "box", 1},
		{"another resource", mixed, box("1", "2", "3", "4", "5", "6"), "gas", 0},
		{"a field's Name", mixed, box("1", "2", "3", "4", "5", "6"), "a", 0},
		{"the object's Name", mixed, box("1", "2", "3", "4", "5", "6"), "x", 0},
		{"the object's Team", mixed, box("1", "2", "3", "4", "5", "6"), "t", 0},
		{"the beginning of the resource", mixed, box("1", "2", "3", "4", "5", "6"), "oi", 0},
		{"the resource and more", mixed, box("1", "2", "3", "4", "5", "6"), "oils", 0},
		{"the empty resource", mixed, box("1", "2", "3", "4", "5", "6"), "", 0},
		{"the empty resource, of an empty Kind", impl.GateLaw{Shapes: []impl.GateShape{{Fields: []impl.GateField{number("a", "")}}}}, impl.GateObject{Values: []string{"5"}}, "", 0},

		{"not set", lawOf(number("a", "oil")), box(""), "oil", 0},
		{"0", lawOf(number("a", "oil")), box("0"), "oil", 0},
		{"a 0 ahead", lawOf(number("a", "oil")), box("07"), "oil", 0},
		{"a sign", lawOf(number("a", "oil")), box("+7"), "oil", 0},
		{"below 0", lawOf(number("a", "oil")), box("-7"), "oil", 0},
		{"a blank", lawOf(number("a", "oil")), box(" 7"), "oil", 0},
		{"a letter", lawOf(number("a", "oil")), box("7a"), "oil", 0},
		{"a point", lawOf(number("a", "oil")), box("7.0"), "oil", 0},
		{"seven digits, above Most", lawOf(number("a", "oil")), box("9999999"), "oil", 9999999},
		{"eight digits", lawOf(number("a", "oil")), box("10000000"), "oil", 0},
		{"many digits", lawOf(number("a", "oil")), box("99999999999999999999999"), "oil", 0},
		{"digits of another script", lawOf(number("a", "oil")), box("\u0667"), "oil", 0},
		{"one of three no decimal", mixed, box("1", "20", "x", "40", "50", "6"), "oil", 7},
		{"below Least", lawOf(impl.GateField{Name: "a", Kind: impl.GateNumber, Least: 9, Most: 9, Weighs: "oil"}), box("3"), "oil", 3},

		{"no shapes", impl.GateLaw{}, box("7"), "box", 0},
		{"no shape of its Kind", impl.GateLaw{Shapes: []impl.GateShape{{Kind: "can", Fields: []impl.GateField{number("a", "box")}}}}, box("7"), "box", 0},
		{"no shape of its Kind, which is empty", mixed, impl.GateObject{Values: []string{"1", "2", "3", "4", "5", "6"}}, "oil", 0},
		{"the first shape of its Kind", two, box("7"), "oil", 7},
		{"the second shape of its Kind", two, box("7", "8"), "oil", 0},
		{"the second shape of its Kind alone", two, box("7"), "tar", 0},
		{"its Kind, by the second shape", two, box("7", "8"), "box", 0},
		{"one value too few", mixed, box("1", "2", "3", "4", "5"), "oil", 0},
		{"one value too few, the Kind", mixed, box("1", "2", "3", "4", "5"), "box", 0},
		{"one value too many", mixed, box("1", "2", "3", "4", "5", "6", "7"), "oil", 0},
		{"one value too many, the Kind", lawOf(), box("1"), "box", 0},
		{"no values", mixed, box(), "oil", 0},

		{"a word that weighs", lawOf(impl.GateField{Name: "a", Kind: impl.GateWord, Words: []string{"7"}, Weighs: "oil"}), box("7"), "oil", 0},
		{"a text that weighs", lawOf(impl.GateField{Name: "a", Kind: impl.GateText, Least: 1, Most: 2, Weighs: "oil"}), box("7"), "oil", 0},
		{"a link that weighs", lawOf(impl.GateField{Name: "a", Kind: impl.GateLink, To: "box", Role: impl.GateHolds, Weighs: "oil"}), box("7"), "oil", 0},
		{"a field of no Kind that weighs", lawOf(impl.GateField{Name: "a", Weighs: "oil"}), box("7"), "oil", 0},
		{"a field of the Kind 5 that weighs", lawOf(impl.GateField{Name: "a", Kind: 5, Weighs: "oil"}), box("7"), "oil", 0},
		{"seven fields", lawOf(slices.Repeat([]impl.GateField{number("a", "oil")}, 7)...), box("1", "1", "1", "1", "1", "1", "9"), "oil", 15},
		{"a resource that is no name", lawOf(number("a", "Oil \x00")), box("7"), "Oil \x00", 7},
		{"a Kind that is no name", impl.GateLaw{Shapes: []impl.GateShape{{Kind: "Box!"}}}, impl.GateObject{Kind: "Box!"}, "Box!", 1},
		{"a link to no shape beside it", lawOf(number("a", "oil"), impl.GateField{Name: "b", Kind: impl.GateLink, To: "ship"}), box("7", "x"), "oil", 7},
		{"an object that is not ok", lawOf(number("a", "oil")), impl.GateObject{Kind: "box", Values: []string{"7"}, Holds: []string{"b", "a"}, Version: -1}, "oil", 7},
		{"one that is Ending", lawOf(number("a", "oil")), ending(box("7")), "oil", 7},
		{"a value that a mend would turn", fleetLaw(), job("j", "lab", "3", "", "big", "", "", ""), "need", 3},
		{"a value that is not filled", fleetLaw(), job("j", "lab", "", "", "small", "", "", ""), "need", 0},
		{"two values of the fleet's job", fleetLaw(), fleetBook().Objects[3], "need", 5},
	} {
		if got := impl.GateWeighs(c.law, c.o, c.resource); got != c.want {
			t.Errorf("%s: %d, not %d", c.what, got, c.want)
		}
	}
}

func TestGateWeighsByALawThatIsNotOk(t *testing.T) {
	for what, law := range badLaws() {
		if got := impl.GateWeighs(law, fleetBook().Objects[3], "need"); got != 5 {
			t.Errorf("%s: %d", what, got)
		}
	}
}

func TestGateUsed(t *testing.T) {
	objects := func(teams ...string) impl.GateBook {
		var b impl.GateBook
		for i, team := range teams {
			b.Objects = append(b.Objects, berth("b", team, strconv.Itoa(1<<i), "a"))
		}
		return b
	}
	of := func(teams teamList) impl.GateLaw {
		law := fleetLaw()
		law.Teams = teams
		return law
	}
	everywhere := objects("dev", "lab", "ops", "yard")
	deep := objects("a", "b", "c", "d", "e", "f")
	for _, c := range []struct {
		what     string
		law      impl.GateLaw
		b        impl.GateBook
		team     string
		resource string
		want     int
	}{
		{"the team, one in it, and one in that", fleetLaw(), everywhere, "dev", "room", 1 + 2 + 8},
		{"without the one over it", fleetLaw(), everywhere, "lab", "room", 2 + 8},
		{"without all over it", fleetLaw(), everywhere, "yard", "room", 8},
		{"without those beside it", fleetLaw(), everywhere, "ops", "room", 4},
		{"by the Kind", fleetLaw(), everywhere, "dev", "berth", 3},
		{"by the Kind, beside", fleetLaw(), everywhere, "ops", "berth", 1},
		{"another resource", fleetLaw(), everywhere, "dev", "need", 0},
		{"the empty resource", fleetLaw(), everywhere, "dev", "", 0},
		{"no team's name", fleetLaw(), everywhere, "ghost", "room", 0},
		{"no team's name, an object's", fleetLaw(), objects("dev", "ghost"), "ghost", "room", 2},
		{"the beginning of a name", fleetLaw(), everywhere, "de", "room", 0},
		{"the empty team", fleetLaw(), everywhere, "", "room", 0},
		{"the empty team, an object's", fleetLaw(), objects("dev", ""), "", "room", 2},
		{"no objects", fleetLaw(), impl.GateBook{}, "dev", "room", 0},
		{"two of one team", fleetLaw(), objects("lab", "lab"), "dev", "room", 3},
		{"the fleet's dev", fleetLaw(), fleetBook(), "dev", "need", 13},
		{"the fleet's lab", fleetLaw(), fleetBook(), "lab", "need", 13},
		{"the fleet's yard", fleetLaw(), fleetBook(), "yard", "need", 5},
		{"the fleet's ops, an Ending one", fleetLaw(), fleetBook(), "ops", "need", 1},
		{"as deep as there may be", of(chain(6)), deep, "a", "room", 31},
		{"as deep as there may be, from the next", of(chain(6)), deep, "b", "room", 2 + 4 + 8 + 16 + 32},
		{"a circle", of(ring(3)), deep, "b", "room", 1 + 2 + 4},
		{"a circle of six", of(ring(6)), deep, "a", "room", 1 + 4 + 8 + 16 + 32},
		{"the first team of a name", of(teamList{{Name: "a", Over: "b"}, {Name: "a", Over: "c"}}), deep, "b", "room", 1 + 2},
		{"the second team of a name", of(teamList{{Name: "a", Over: "b"}, {Name: "a", Over: "c"}}), deep, "c", "room", 4},
		{"without teams", of(nil), deep, "c", "room", 4},
		{"without shapes", impl.GateLaw{Teams: fleetTeams()}, everywhere, "dev", "berth", 0},
		{"more than a bound may be", fleetLaw(), impl.GateBook{Objects: slices.Repeat([]impl.GateObject{berth("b", "dev", "9999999", "")}, 100)}, "dev", "room", 999999900},
	} {
		if got := impl.GateUsed(c.law, c.b, c.team, c.resource); got != c.want {
			t.Errorf("%s: %d, not %d", c.what, got, c.want)
		}
	}
}

// What a book has besides its objects is not what is used.
func TestGateUsedLooksAtObjectsAlone(t *testing.T) {
	b := impl.GateBook{Now: -1, Tick: -1, Given: 99, Objects: fleetBook().Objects}
	if got := impl.GateUsed(fleetLaw(), b, "dev", "need"); got != 13 {
		t.Errorf("%d", got)
	}
	for what, law := range badLaws() {
		law.Teams = fleetTeams()
		if got := impl.GateUsed(law, fleetBook(), "dev", "need"); got != 13 {
			t.Errorf("%s: %d", what, got)
		}
	}
}

// settle makes each ledger's sum right by its Free, where that goes.
func settle(l impl.GateLaw, b *impl.GateBook) {
	for i := range b.Ledgers {
		ledger := &b.Ledgers[i]
		ledger.Free = ledger.Most - usedBy(l, *b, ledger.Team, ledger.Resource) - drawnFrom(*b, ledger.Team, ledger.Resource)
	}
}

func inOrder(b *impl.GateBook) {
	slices.SortFunc(b.Objects, func(a, b impl.GateObject) int {
		return cmp.Or(cmp.Compare(a.Kind, b.Kind), cmp.Compare(a.Name, b.Name))
	})
	slices.SortFunc(b.Ledgers, func(a, b impl.GateLedger) int {
		return cmp.Or(cmp.Compare(a.Team, b.Team), cmp.Compare(a.Resource, b.Resource))
	})
	slices.SortFunc(b.Purses, func(a, b impl.GatePurse) int {
		return cmp.Or(cmp.Compare(a.Door, b.Door), cmp.Compare(a.Team, b.Team), cmp.Compare(a.Resource, b.Resource))
	})
}

// bookEdit is what one thing, or two that go together, make of fleetBook.
type bookEdit struct {
	what string
	ok   bool
	edit func(l *impl.GateLaw, b *impl.GateBook)
}

func checkEdits(t *testing.T, list []bookEdit) {
	t.Helper()
	for _, c := range list {
		l, b := fleetLaw(), fleetBook()
		c.edit(&l, &b)
		if got := impl.GateBookOk(l, b); got != c.ok {
			t.Errorf("%s: %v", c.what, got)
		}
		if want := bookIsOk(l, b); want != c.ok {
			t.Errorf("%s: %v by the tests' own list", c.what, want)
		}
	}
}

type (
	law  = *impl.GateLaw
	book = *impl.GateBook
)

func TestGateBookOk(t *testing.T) {
	checkEdits(t, []bookEdit{
		{"the fleet's", true, func(l law, b book) {}},
		{"nothing", true, func(l law, b book) { *l, *b = impl.GateLaw{}, impl.GateBook{} }},
		{"nothing, by the fleet's law", true, func(l law, b book) { *b = impl.GateBook{} }},
		{"Now 0", true, func(l law, b book) { *b = impl.GateBook{Now: 0} }},
		{"Now below 0", false, func(l law, b book) { *b = impl.GateBook{Now: -1, Given: -1} }},
		{"Now below 0, Given 0", false, func(l law, b book) { *b = impl.GateBook{Now: -1} }},
		{"Now as great as it may be", true, func(l law, b book) { b.Now = impl.GateMaxVersion }},
		{"Now one greater", false, func(l law, b book) { b.Now = impl.GateMaxVersion + 1 }},
		{"the greatest Now", false, func(l law, b book) { b.Now = math.MaxInt }},
		{"Tick 0", true, func(l law, b book) { shiftTicks(b, -b.Tick) }},
		{"Tick below 0", false, func(l law, b book) { shiftTicks(b, -b.Tick-1) }},
		{"Tick as great as it may be", true, func(l law, b book) { shiftTicks(b, impl.GateMaxNumber-b.Tick) }},
		{"Tick one greater", false, func(l law, b book) { shiftTicks(b, impl.GateMaxNumber+1-b.Tick) }},
		{"the greatest Tick, without purses", false, func(l law, b book) { *b = impl.GateBook{Tick: math.MaxInt} }},
		{"Given 0", true, func(l law, b book) { b.Given, b.Grants = 0, nil }},
		{"Given below 0", false, func(l law, b book) { b.Given, b.Grants = -1, nil }},
		{"Given of Now", true, func(l law, b book) { b.Given = b.Now }},
		{"Given behind Now", false, func(l law, b book) { b.Given = b.Now + 1 }},
	})
	for what, l := range badLaws() {
		if impl.GateBookOk(l, impl.GateBook{}) || impl.GateBookOk(l, fleetBook()) {
			t.Errorf("%s: ok", what)
		}
	}
}

func shiftTicks(b book, by int) {
	b.Tick += by
	for i := range b.Purses {
		b.Purses[i].Until += by
	}
}

// manyBerths are of yard, which no ledger of room is of.
func manyBerths(b book, n int) {
	for len(b.Objects) < n {
		b.Objects = append(b.Objects, berth("x-"+strconv.Itoa(len(b.Objects)), "yard", "1", "a"))
	}
	inOrder(b)
}

func TestGateBookOkObjects(t *testing.T) {
	swap := func(b book, i, j int) { b.Objects[i], b.Objects[j] = b.Objects[j], b.Objects[i] }
	value := func(b book, object, place int, value string) { b.Objects[object].Values[place] = value }
	checkEdits(t, []bookEdit{
		{"as many as there may be", true, func(l law, b book) { manyBerths(b, impl.GateMaxObjects) }},
		{"one too many", false, func(l law, b book) { manyBerths(b, impl.GateMaxObjects+1) }},
		{"kinds out of order", false, func(l law, b book) { swap(b, 1, 2) }},
		{"names out of order", false, func(l law, b book) { swap(b, 0, 1) }},
		{"names out of order, the last two", false, func(l law, b book) { swap(b, 3, 4) }},
		{"an object twice", false, func(l law, b book) { b.Objects = slices.Insert(b.Objects, 1, b.Objects[0]) }},
		{"a Kind and Name twice", false, func(l law, b book) { b.Objects = slices.Insert(b.Objects, 1, berth("b-1", "yard", "2", "b")) }},
		{"one Name in two kinds", true, func(l law, b book) { b.Objects = slices.Insert(b.Objects, 2, berth("j-1", "yard", "2", "b")) }},
		{"names that go down from kind to kind", true, func(l law, b book) { b.Objects = slices.Insert(b.Objects, 2, berth("z", "yard", "2", "b")) }},
		{"a Name that begins the next", true, func(l law, b book) { b.Objects = slices.Insert(b.Objects, 0, berth("b", "yard", "2", "b")) }},

		{"no shape of its Kind", false, func(l law, b book) {
			b.Objects = append(b.Objects, impl.GateObject{Kind: "ship", Name: "s", Team: "ops", Version: 1})
		}},
		{"a Name that is none", false, func(l law, b book) { b.Objects[4].Name = "j_3" }},
		{"one value too few", false, func(l law, b book) { b.Objects[0].Values = b.Objects[0].Values[:1] }},
		{"one value too many", false, func(l law, b book) { b.Objects[0].Values = append(b.Objects[0].Values, "") }},
		{"three holds", true, func(l law, b book) { b.Objects[2].Holds = []string{"a", "b", "c"} }},
		{"four holds", false, func(l law, b book) { b.Objects[2].Holds = []string{"a", "b", "c", "d"} }},
		{"holds out of order", false, func(l law, b book) { b.Objects[2].Holds = []string{"b", "a"} }},
		{"a Must that is not set", false, func(l law, b book) { value(b, 0, 0, "") }},
		{"a value at Most", true, func(l law, b book) { value(b, 0, 0, "64") }},
		{"a value above Most", false, func(l law, b book) { value(b, 0, 0, "65") }},
		{"a word that is none", false, func(l law, b book) { value(b, 0, 1, "c") }},

		{"a Team of the law's", true, func(l law, b book) { b.Objects[0].Team = "yard" }},
		{"a Team that is none of the law's", false, func(l law, b book) { b.Objects[0].Team = "ghost" }},
		{"a Team that is gone from the law", false, func(l law, b book) { l.Teams, b.Ledgers, b.Purses = l.Teams[:3], nil, nil }},
		{"the empty Team", false, func(l law, b book) { b.Objects[0].Team = "" }},

		{"Version 1", true, func(l law, b book) { b.Objects[4].Version = 1 }},
		{"Version 0", false, func(l law, b book) { b.Objects[4].Version = 0 }},
		{"Version below 0", false, func(l law, b book) { b.Objects[4].Version = -1 }},
		{"Version of Now", true, func(l law, b book) { b.Objects[4].Version = b.Now }},
		{"Version behind Now", false, func(l law, b book) { b.Objects[4].Version = b.Now + 1 }},
		{"Version of Now, at its end", true, func(l law, b book) { b.Now, b.Objects[4].Version = impl.GateMaxVersion, impl.GateMaxVersion }},
		{"one Version twice", true, func(l law, b book) { b.Objects[3].Version = b.Objects[2].Version }},
		{"Now below the last Version", false, func(l law, b book) { b.Now-- }},

		{"what GateFill would change", false, func(l law, b book) { value(b, 0, 1, "") }},
		{"what GateFill would change, a number", false, func(l law, b book) { value(b, 4, 0, "") }},
		{"what a mend would change", false, func(l law, b book) { value(b, 2, 0, "3"); settle(*l, b) }},
		{"what a mend would fill", false, func(l law, b book) { value(b, 2, 0, ""); settle(*l, b) }},
		{"what a mend does not reach", true, func(l law, b book) { value(b, 3, 0, "1"); settle(*l, b) }},
		{"without the mend", true, func(l law, b book) { l.Mends = nil; value(b, 2, 0, "3"); settle(*l, b) }},
		{"a mend more that would change it", false, func(l law, b book) {
			l.Mends = append(l.Mends, impl.GateMend{Kind: "job", Field: "more", When: "mode", Is: "small", Put: "1"})
		}},
		{"a mend more that says so", true, func(l law, b book) {
			l.Mends = append(l.Mends, impl.GateMend{Kind: "job", Field: "more", When: "mode", Is: "small", Put: "2"})
		}},

		{"a link that names nothing", false, func(l law, b book) { value(b, 2, 3, "b-3") }},
		{"a later link that names nothing", false, func(l law, b book) { value(b, 2, 5, "j-4") }},
		{"the first of two links names nothing", false, func(l law, b book) { value(b, 3, 4, "j-0") }},
		{"a link that names another kind's", false, func(l law, b book) { value(b, 2, 3, "j-1") }},
		{"a link that names another kind's, the other way", false, func(l law, b book) { value(b, 2, 4, "b-1") }},
		{"a link that names its own team", false, func(l law, b book) { value(b, 2, 3, "lab") }},
		{"a link that is no name", false, func(l law, b book) { value(b, 2, 3, "B-1") }},
		{"a link that names the beginning of a name", false, func(l law, b book) { value(b, 2, 3, "b-") }},
		{"a link that is not set", true, func(l law, b book) { value(b, 2, 3, "") }},
		{"a link to another object", true, func(l law, b book) { value(b, 2, 3, "b-2") }},
		{"a link to an Ending one", true, func(l law, b book) { value(b, 2, 4, "j-3") }},
		{"a link to itself", true, func(l law, b book) { value(b, 2, 4, "j-1") }},
		{"links in a circle", true, func(l law, b book) { value(b, 2, 4, "j-2") }},
		{"a link to the last object", true, func(l law, b book) { value(b, 3, 5, "j-3") }},
		{"what a link names is gone", false, func(l law, b book) { b.Objects = slices.Delete(b.Objects, 0, 1) }},
		{"a word that would be a name", true, func(l law, b book) { value(b, 4, 2, "small") }},
	})
}

func manyGrants(b book, n int) {
	b.Given, b.Grants = n, nil
	b.Now = max(b.Now, n)
	for i := range n {
		b.Grants = append(b.Grants, impl.GateGrant{Number: i + 1, To: "ann", Rule: rule("", 1)})
	}
}

func TestGateBookOkGrants(t *testing.T) {
	checkEdits(t, []bookEdit{
		{"as many as there may be", true, func(l law, b book) { manyGrants(b, impl.GateMaxGrants) }},
		{"one too many", false, func(l law, b book) { manyGrants(b, impl.GateMaxGrants+1) }},
		{"none", true, func(l law, b book) { b.Grants = nil }},
		{"out of order", false, func(l law, b book) { slices.Reverse(b.Grants) }},
		{"a Number twice", false, func(l law, b book) { b.Grants[0].Number = 7 }},
		{"a grant twice", false, func(l law, b book) { b.Grants = append(b.Grants, b.Grants[1]) }},
		{"Number 1", true, func(l law, b book) { b.Grants[0].Number = 1 }},
		{"Number 0", false, func(l law, b book) { b.Grants[0].Number = 0 }},
		{"a Number below 0", false, func(l law, b book) { b.Grants[0].Number = -1 }},
		{"the least Number", false, func(l law, b book) { b.Grants[0].Number = math.MinInt }},
		{"a Number of Given", true, func(l law, b book) { b.Grants[1].Number = b.Given }},
		{"a Number behind Given", false, func(l law, b book) { b.Grants[1].Number = b.Given + 1 }},
		{"To that is empty", false, func(l law, b book) { b.Grants[1].To = "" }},
		{"To that is no name", false, func(l law, b book) { b.Grants[0].To = "Ann" }},
		{"To of all its bytes", true, func(l law, b book) { b.Grants[0].To = letters(impl.GateMaxName) }},
		{"To too long", false, func(l law, b book) { b.Grants[0].To = letters(impl.GateMaxName + 1) }},
		{"By that is empty", true, func(l law, b book) { b.Grants[1].By = "" }},
		{"By that is no name", false, func(l law, b book) { b.Grants[1].By = "ann " }},
		{"By too long", false, func(l law, b book) { b.Grants[1].By = letters(impl.GateMaxName + 1) }},
		{"By whom nobody gave to", true, func(l law, b book) { b.Grants[1].By = "eve" }},
		{"By themselves", true, func(l law, b book) { b.Grants[1].By = "bob" }},
		{"a Rule of no team of the law's", true, func(l law, b book) { b.Grants[1].Rule.Team = "ghost" }},
		{"a Rule of no kind of the law's", true, func(l law, b book) { b.Grants[1].Rule.Kind = "ship" }},
		{"the last Rule not ok", false, func(l law, b book) { b.Grants[1].Rule.Verbs = nil }},
	})
	for what, r := range badRules() {
		b := fleetBook()
		b.Grants[0].Rule = r
		if impl.GateBookOk(fleetLaw(), b) {
			t.Errorf("%s: ok", what)
		}
	}
	for what, r := range okRules() {
		b := fleetBook()
		b.Grants[0].Rule = r
		if !impl.GateBookOk(fleetLaw(), b) {
			t.Errorf("%s: not ok", what)
		}
	}
}

func manyLedgers(b book, n int) {
	for len(b.Ledgers) < n {
		b.Ledgers = append(b.Ledgers, impl.GateLedger{Team: "yard", Resource: "x-" + strconv.Itoa(len(b.Ledgers)), Most: 3, Free: 3})
	}
	inOrder(b)
}

func TestGateBookOkLedgers(t *testing.T) {
	put := func(b book, ledger impl.GateLedger) {
		b.Ledgers = append(b.Ledgers, ledger)
		inOrder(b)
	}
	swap := func(b book, i, j int) { b.Ledgers[i], b.Ledgers[j] = b.Ledgers[j], b.Ledgers[i] }
	checkEdits(t, []bookEdit{
		{"as many as there may be", true, func(l law, b book) { manyLedgers(b, impl.GateMaxLedgers) }},
		{"one too many", false, func(l law, b book) { manyLedgers(b, impl.GateMaxLedgers+1) }},
		{"none", true, func(l law, b book) { b.Ledgers, b.Purses = nil, nil }},
		{"teams out of order", false, func(l law, b book) { swap(b, 2, 3) }},
		{"resources out of order", false, func(l law, b book) { swap(b, 0, 1) }},
		{"a ledger twice", false, func(l law, b book) { put(b, b.Ledgers[2]) }},
		{"a Team and Resource twice", false, func(l law, b book) { put(b, impl.GateLedger{Team: "lab", Resource: "need", Most: 14, Free: 1}) }},
		{"resources that go down from team to team", true, func(l law, b book) { put(b, impl.GateLedger{Team: "lab", Resource: "job", Most: 2}) }},
		{"a Team that is none of the law's", false, func(l law, b book) { put(b, impl.GateLedger{Team: "ghost", Resource: "need"}) }},
		{"the empty Team", false, func(l law, b book) { put(b, impl.GateLedger{Resource: "need"}) }},
		{"a Resource that nothing weighs", true, func(l law, b book) { put(b, impl.GateLedger{Team: "dev", Resource: "gold", Most: 1, Free: 1}) }},
		{"a Resource of all its bytes", true, func(l law, b book) { put(b, impl.GateLedger{Team: "dev", Resource: letters(impl.GateMaxName)}) }},
		{"a Resource too long", false, func(l law, b book) { put(b, impl.GateLedger{Team: "dev", Resource: letters(impl.GateMaxName + 1)}) }},
		{"the empty Resource", false, func(l law, b book) { put(b, impl.GateLedger{Team: "dev"}) }},
		{"a Resource that is no name", false, func(l law, b book) { put(b, impl.GateLedger{Team: "dev", Resource: "Gold"}) }},
		{"Most 0", true, func(l law, b book) { put(b, impl.GateLedger{Team: "yard", Resource: "room"}) }},
		{"Most below 0", false, func(l law, b book) { put(b, impl.GateLedger{Team: "yard", Resource: "room", Most: -1, Free: -1}) }},
		{"Most as great as it may be", true, func(l law, b book) {
			put(b, impl.GateLedger{Team: "yard", Resource: "room", Most: impl.GateMaxNumber, Free: impl.GateMaxNumber})
		}},
		{"Most one greater", false, func(l law, b book) {
			put(b, impl.GateLedger{Team: "yard", Resource: "room", Most: impl.GateMaxNumber + 1, Free: impl.GateMaxNumber + 1})
		}},
		{"Most one greater, Free as great as it may be", false, func(l law, b book) {
			put(b, impl.GateLedger{Team: "dev", Resource: "berth", Most: impl.GateMaxNumber + 1, Free: impl.GateMaxNumber})
		}},
		{"Free 0", true, func(l law, b book) { b.Ledgers[1].Most, b.Ledgers[1].Free = 20, 0 }},
		{"Free below 0", false, func(l law, b book) { b.Ledgers[1].Most, b.Ledgers[1].Free = 19, -1 }},
		{"Free as great as Most", true, func(l law, b book) { put(b, impl.GateLedger{Team: "yard", Resource: "room", Most: 3, Free: 3}) }},
		{"Free above Most", false, func(l law, b book) { put(b, impl.GateLedger{Team: "yard", Resource: "room", Most: 3, Free: 4}) }},

		{"a sum one too great", false, func(l law, b book) { b.Ledgers[1].Free++ }},
		{"a sum one too small", false, func(l law, b book) { b.Ledgers[1].Free-- }},
		{"a Most one too great", false, func(l law, b book) { b.Ledgers[2].Most++ }},
		{"a Most one too small", false, func(l law, b book) { b.Ledgers[3].Most-- }},
		{"the first sum one too great", false, func(l law, b book) { b.Ledgers[0].Free++ }},
		{"the last sum one too great", false, func(l law, b book) { b.Ledgers[3].Free++; b.Ledgers[3].Most += 2 }},
		{"two sums wrong by one, against each other", false, func(l law, b book) { b.Ledgers[0].Free++; b.Ledgers[1].Free-- }},
		{"a purse one too great", false, func(l law, b book) { b.Purses[1].Amount++ }},
		{"a purse one too small", false, func(l law, b book) { b.Purses[1].Amount-- }},
		{"from a purse to another of one ledger", true, func(l law, b book) { b.Purses[1].Amount--; b.Purses[2].Amount++ }},
		{"from a purse to another ledger's", false, func(l law, b book) { b.Purses[0].Amount++; b.Purses[1].Amount-- }},
		{"from Free to a purse", true, func(l law, b book) { b.Purses[1].Amount++; b.Ledgers[1].Free-- }},
		{"a purse that nobody counts", false, func(l law, b book) { b.Purses = b.Purses[1:] }},
		{"an object of the team uses one more", false, func(l law, b book) { b.Objects[3].Values[1] = "3" }},
		{"an object of another team uses one more", true, func(l law, b book) { b.Objects[4].Values[1] = "3" }},
		{"an object of the team over it", false, func(l law, b book) { b.Objects = append(b.Objects, job("z", "dev", "1", "", "", "", "", "")) }},
		{"an object of the team over it, counted there alone", true, func(l law, b book) {
			b.Objects = append(b.Objects, job("z", "dev", "1", "", "", "", "", ""))
			b.Ledgers[0].Free--
			b.Ledgers[1].Free--
		}},
		{"an object under it, counted in both", true, func(l law, b book) {
			b.Objects = append(b.Objects, job("z", "yard", "1", "", "", "", "", ""))
			b.Ledgers[0].Free--
			b.Ledgers[1].Free--
			b.Ledgers[2].Most++
		}},
		{"an object in another team", false, func(l law, b book) { b.Objects[3].Team = "ops" }},
		{"a team in another one", false, func(l law, b book) { l.Teams[3].Over = "ops" }},
	})
}

// manyPurses are of one more ledger, which has nothing but them.
func manyPurses(b book, n int) {
	b.Ledgers = append(b.Ledgers, impl.GateLedger{Team: "yard", Resource: "gold"})
	for len(b.Purses) < n {
		b.Ledgers[4].Most += 2
		b.Purses = append(b.Purses, impl.GatePurse{Door: "e-" + strconv.Itoa(100+len(b.Purses)), Team: "yard", Resource: "gold", Amount: 2, Until: 6})
	}
}

func TestGateBookOkPurses(t *testing.T) {
	swap := func(b book, i, j int) { b.Purses[i], b.Purses[j] = b.Purses[j], b.Purses[i] }
	gold := func(b book, most int, purses ...impl.GatePurse) {
		b.Ledgers = append(b.Ledgers, impl.GateLedger{Team: "yard", Resource: "gold", Most: most})
		b.Purses = append(b.Purses, purses...)
	}
	of := func(door string, amount, until int) impl.GatePurse {
		return impl.GatePurse{Door: door, Team: "yard", Resource: "gold", Amount: amount, Until: until}
	}
	checkEdits(t, []bookEdit{
		{"as many as there may be", true, func(l law, b book) { manyPurses(b, impl.GateMaxPurses) }},
		{"one too many", false, func(l law, b book) { manyPurses(b, impl.GateMaxPurses+1) }},
		{"none", true, func(l law, b book) { b.Purses = nil; settle(*l, b) }},
		{"doors out of order", false, func(l law, b book) { swap(b, 1, 2) }},
		{"teams out of order", false, func(l law, b book) { swap(b, 2, 3) }},
		{"resources out of order", false, func(l law, b book) { swap(b, 0, 1) }},
		{"a purse twice", false, func(l law, b book) { b.Purses = slices.Insert(b.Purses, 2, b.Purses[1]); settle(*l, b) }},
		{"a purse of a door twice", false, func(l law, b book) { gold(b, 3, of("e", 1, 5), of("e", 2, 6)) }},
		{"purses of two doors", true, func(l law, b book) { gold(b, 3, of("e", 1, 5), of("f", 2, 6)) }},
		{"a Door of all its bytes", true, func(l law, b book) { gold(b, 1, of("e"+letters(impl.GateMaxName-1), 1, 5)) }},
		{"a Door too long", false, func(l law, b book) { gold(b, 1, of("e"+letters(impl.GateMaxName), 1, 5)) }},
		{"a Door that is no name", false, func(l law, b book) { gold(b, 1, of("e_", 1, 5)) }},
		{"the empty Door", false, func(l law, b book) { b.Purses[0].Door = "" }},
		{"no ledger of its Resource", false, func(l law, b book) {
			b.Purses = append(b.Purses, impl.GatePurse{Door: "e", Team: "dev", Resource: "room", Amount: 1, Until: 5})
		}},
		{"no ledger of its Team", false, func(l law, b book) {
			b.Purses = append(b.Purses, impl.GatePurse{Door: "e", Team: "yard", Resource: "need", Amount: 1, Until: 5})
		}},
		{"no ledger of its Team, but of the one over it", false, func(l law, b book) {
			b.Purses = append(b.Purses, impl.GatePurse{Door: "e", Team: "lab", Resource: "job", Amount: 1, Until: 5})
		}},
		{"no ledgers", false, func(l law, b book) { b.Ledgers = nil }},
		{"Amount 1", true, func(l law, b book) { gold(b, 1, of("e", 1, 5)) }},
		{"Amount 0", false, func(l law, b book) { gold(b, 0, of("e", 0, 5)) }},
		{"an Amount below 0", false, func(l law, b book) { gold(b, 1, of("e", -1, 5), of("f", 2, 5)) }},
		{"an Amount as great as it may be", true, func(l law, b book) { gold(b, impl.GateMaxNumber, of("e", impl.GateMaxNumber, 5)) }},
		{"an Amount one greater", false, func(l law, b book) { gold(b, impl.GateMaxNumber, of("e", impl.GateMaxNumber+1, 5)) }},
		{"an Amount one greater, with a Most to it", false, func(l law, b book) { gold(b, impl.GateMaxNumber+1, of("e", impl.GateMaxNumber+1, 5)) }},
		{"Until Tick", true, func(l law, b book) { b.Purses[2].Until = b.Tick }},
		{"Until ahead of Tick", false, func(l law, b book) { b.Purses[2].Until = b.Tick - 1 }},
		{"Until as late as it may be", true, func(l law, b book) { b.Purses[2].Until = b.Tick + impl.GatePurseLife }},
		{"Until one later", false, func(l law, b book) { b.Purses[2].Until = b.Tick + impl.GatePurseLife + 1 }},
		{"the greatest Until", false, func(l law, b book) { b.Purses[2].Until = math.MaxInt }},
		{"the least Until", false, func(l law, b book) { b.Purses[2].Until = math.MinInt }},
	})
}

func TestGateBookConstants(t *testing.T) {
	got := []int{impl.GateMaxObjects, impl.GateMaxGrants, impl.GateMaxLedgers, impl.GateMaxPurses, impl.GatePurseLife}
	if want := []int{40, 24, 10, 24, 10}; !slices.Equal(got, want) {
		t.Errorf("%v, not %v", got, want)
	}
}
