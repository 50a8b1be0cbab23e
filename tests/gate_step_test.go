package tests

import (
	"math"
	"slices"
	"strconv"
	"testing"

	"loop.example/wharfdesk/impl"
)

// eventUses are the parts of an event that each kind uses.
var eventUses = map[int]texts{
	impl.GateLook:    {"Door"},
	impl.GateAsks:    {"Door", "Ask"},
	impl.GateCommits: {"Door", "At"},
	impl.GateLoses:   {"Door", "At"},
	impl.GateDraws:   {"Door", "Team", "Resource", "Amount"},
	impl.GateBacks:   {"Door", "Team", "Resource"},
	impl.GateTicks:   {},
	impl.GateDies:    {"Door"},
	impl.GateRises:   {"Door"},
	impl.GateSweeps:  {},
	impl.GateBinds:   {"Team", "Resource", "Amount"},
}

// withOther is an event in which what its kind does not use is that of another one.
func withOther(e, other event) event {
	other.Kind = e.Kind
	for _, part := range eventUses[e.Kind] {
		switch part {
		case "Door":
			other.Door = e.Door
		case "Ask":
			other.Ask = e.Ask
		case "At":
			other.At = e.At
		case "Team":
			other.Team = e.Team
		case "Resource":
			other.Resource = e.Resource
		case "Amount":
			other.Amount = e.Amount
		}
	}
	return other
}

// otherEvents are anything at all.
func otherEvents() []event {
	return []event{
		{},
		{Door: -1, At: -1, Ask: ask{Who: "Ann", Verb: -1, Values: texts{"x"}}, Team: "No team", Resource: "", Amount: math.MinInt},
		{Door: math.MaxInt, At: math.MaxInt, Ask: pierSlip().Ask, Team: "dev", Resource: "need", Amount: 3},
		{Door: atD2, At: 1, Ask: toTake(6), Team: "lab", Resource: "fuel", Amount: math.MaxInt},
		{Door: atD3, At: 6, Ask: toGive("eve", rule("", 9)), Team: "ghost", Resource: "job", Amount: 0},
	}
}

// stepCase says what an event makes of pierWorld, turned by edit ahead of it.
type stepCase struct {
	what  string
	event event
	edit  func(w world)
	said  impl.GateSaid
	// want turns the world to what it is behind the event; without it the world stays.
	want func(w world)
}

func (c stepCase) with(edits ...func(w world)) stepCase {
	c.edit = eachOf(edits...)
	return c
}

func eachOf(edits ...func(w world)) func(w world) {
	return func(w world) {
		for _, edit := range edits {
			edit(w)
		}
	}
}

// happens is a case that is told nothing but Code 0.
func happens(what string, e event, wants ...func(w world)) stepCase {
	return stepCase{what: what, event: e, want: eachOf(wants...)}
}

// tells is a case with a code, in which the world stays but for what wants say.
func tells(what string, said impl.GateSaid, e event, wants ...func(w world)) stepCase {
	return stepCase{what: what, event: e, said: said, want: eachOf(wants...)}
}

func checkSteps(t *testing.T, list []stepCase) {
	t.Helper()
	for _, c := range list {
		checkStep(t, c)
	}
}

func checkStep(t *testing.T, c stepCase) {
	t.Helper()
	ahead, want := pierWorld(), pierWorld()
	if c.edit != nil {
		c.edit(&ahead)
		c.edit(&want)
	}
	if !impl.GateWorldOk(pierLaw(), ahead) {
		t.Errorf("%s: the world was not ok", c.what)
	}
	if c.want != nil {
		c.want(&want)
	}
	for i, other := range append([]event{c.event}, otherEvents()...) {
		what := c.what + ", " + strconv.Itoa(i)
		l, w, e := spread(pierLaw()), spread(ahead), spread(withOther(c.event, other))
		lawAhead, worldAhead, eventAhead := whole(l), whole(w), whole(e)
		got, said := impl.GateStep(l, w, e)
		if said != c.said || !same(got, want) {
			t.Errorf("%s: %+v and %+v, not %+v and %+v", what, said, got, c.said, want)
		}
		if byDocument, saidByDocument := stepped(l, w, e); said != saidByDocument || !same(got, byDocument) {
			t.Errorf("%s: %+v and %+v, not %+v and %+v, which the document asks", what, said, got, saidByDocument, byDocument)
		}
		if !impl.GateWorldOk(l, got) || !worldIsOk(l, got) {
			t.Errorf("%s: the world behind it is not ok", what)
		}
		if !same(whole(l), lawAhead) || !same(whole(w), worldAhead) || !same(whole(e), eventAhead) {
			t.Errorf("%s: an argument is changed", what)
		}
		newMemory(t, what, got, l, w, e)
	}
}

// What happens at a door.

func looks(place int) event {
	return event{Kind: impl.GateLook, Door: place}
}

func asksAt(place int, a ask) event {
	return event{Kind: impl.GateAsks, Door: place, Ask: a}
}

func brings(place, at int) event {
	return event{Kind: impl.GateCommits, Door: place, At: at}
}

func drops(place, at int) event {
	return event{Kind: impl.GateLoses, Door: place, At: at}
}

func draws(place int, team, resource string, amount int) event {
	return event{Kind: impl.GateDraws, Door: place, Team: team, Resource: resource, Amount: amount}
}

func backs(place int, team, resource string) event {
	return event{Kind: impl.GateBacks, Door: place, Team: team, Resource: resource}
}

func ticks() event {
	return event{Kind: impl.GateTicks}
}

func dies(place int) event {
	return event{Kind: impl.GateDies, Door: place}
}

func rises(place int) event {
	return event{Kind: impl.GateRises, Door: place}
}

func sweeps() event {
	return event{Kind: impl.GateSweeps}
}

func binds(team, resource string, most int) event {
	return event{Kind: impl.GateBinds, Team: team, Resource: resource, Amount: most}
}

// Edits of worlds.

func inBook(edits ...func(b book)) func(w world) {
	return func(w world) { each(edits...)(&w.Book) }
}

func inView(place int, edits ...func(b book)) func(w world) {
	return func(w world) { each(edits...)(&w.Doors[place].View) }
}

// hasSlips are all that a door has.
func hasSlips(place int, list ...slip) func(w world) {
	return func(w world) { w.Doors[place].Slips = spread(list) }
}

func gone(place, at int) func(w world) {
	return func(w world) { w.Doors[place].Slips = slices.Delete(w.Doors[place].Slips, at, at+1) }
}

// full has all slips that a door may have.
func full(place int) func(w world) {
	return func(w world) {
		hasSlips(place, slices.Repeat([]slip{{Door: w.Doors[place].Name, Ask: toTake(6), Given: 9}}, impl.GateMaxSlips)...)(w)
	}
}

func up(place int) func(w world) {
	return func(w world) { w.Doors[place].Up = true }
}

func down(place int) func(w world) {
	return func(w world) { w.Doors[place].Up, w.Doors[place].Slips = false, nil }
}

// next is what a version more makes of the Book.
func next(edits ...func(b book)) func(w world) {
	return func(w world) {
		w.Book.Now++
		inBook(edits...)(w)
	}
}

func TestGateStepLook(t *testing.T) {
	sees := func(place int) func(w world) { return func(w world) { w.Doors[place].View = pierBook() } }
	checkSteps(t, []stepCase{
		happens("an older view", looks(atD1), sees(atD1)),
		happens("a view that is the Book", looks(atD3)),
		happens("a much older view", looks(atD2), sees(atD2)).with(up(atD2)),
		happens("a view of nothing", looks(atD3), sees(atD3)).with(func(w world) { w.Doors[atD3].View = impl.GateBook{} }),
		happens("a view of another history", looks(atD1), sees(atD1)).with(inView(atD1, objectsUpTo(impl.GateMaxObjects), noLedgers)),
		happens("a Book of nothing", looks(atD1)).with(func(w world) { *w = impl.GateWorld{Doors: []door{{Name: "d", Up: true}}} }),
		happens("a door that has all slips", looks(atD1), sees(atD1)).with(full(atD1)),
		happens("the last of all doors", looks(3), func(w world) { w.Doors[3].View = pierBook() }).with(manyDoors(impl.GateMaxDoors)),
		tells("not Up", refused(13, 0), looks(atD2)),
	})
}

func TestGateStepAsks(t *testing.T) {
	slips := func(place int, a ask, given int, wants ...want) func(w world) {
		return func(w world) {
			d := &w.Doors[place]
			d.Slips = append(d.Slips, slip{Door: d.Name, Ask: a, Given: given, Wants: wants})
		}
	}
	does := func(what string, place int, a ask, given int, wants ...want) stepCase {
		return happens(what, asksAt(place, a), slips(place, a, given, wants...))
	}
	job := toMake("job", "j-9", "lab", "5", "2", "small", "b-1", "j-1", "j-2")
	checkSteps(t, []stepCase{
		does("to make, with links", atD1, holding(job, "clean", "count"), 9, onJ9, onB1, onJ1, on("job", "j-2", 5)),
		does("to make, with links, by the newest view", atD3, job, 9, onJ9, onB1, onJ1, onJ2),
		does("to change what the view has otherwise", atD1, seen(5, toChange("job", "j-2", "3", "3", "small", "b-3", "j-1", "j-1")), 9, on("job", "j-2", 5), onJ1),
		does("to end", atD1, toEnd("job", "j-2"), 9, on("job", "j-2", 5)),
		does("to let go", atD3, toLetGo("job", "j-3", "clean"), 9, onJ3),
		does("to give", atD1, toGive("bob", rule("", 1)), 9),
		does("to take", atD3, toTake(6), 9),
		does("what is too dear", atD3, toMake("job", "j-9", "yard", "32", "8", "", "", "", ""), 9, onJ9),
		does("the last slip that there may be", atD1, toEnd("note", "n-1"), 9, onN1).with(hasSlips(atD1, slices.Repeat([]slip{endsN1}, impl.GateMaxSlips-1)...)),
		does("the first slip", atD1, toEnd("note", "n-1"), 9, onN1).with(hasSlips(atD1)),
		does("what is asked already", atD1, endsN1.Ask, 9, onN1),
		does("what is gone from the Book", atD1, toEnd("note", "n-1"), 9, onN1).with(func(w world) { w.Book = oldView(); w.Book.Now = 20 }),
		does("what an older view says", atD2, asks("bob", toMake("note", "j-9", "lab")), 3, on("note", "j-9", 0)).with(up(atD2)),
		does("what the Book has and the view has not", atD2, toMake("note", "n-1", "ops"), 3, on("note", "n-1", 0)).with(up(atD2)),
		does("the Book's last version", atD1, toEnd("note", "n-1"), 9, onN1).with(inBook(atLast)),

		tells("an ask that is not ok", refused(2, 0), asksAt(atD1, ask{})),
		tells("an ask of nobody", refused(2, 0), asksAt(atD1, asks("", job))),
		tells("an ask of two things", refused(2, 0), asksAt(atD1, ask{Who: "ann", Verb: impl.GateTake, Number: 6, Hold: "h"})),
		tells("it is there", refused(3, 0), asksAt(atD1, toMake("note", "n-1", "dev"))),
		tells("it is not there", refused(3, 0), asksAt(atD2, toEnd("note", "n-1"))).with(up(atD2)),
		tells("no such grant", refused(3, 0), asksAt(atD2, toTake(6))).with(up(atD2)),
		tells("they may not", refused(4, 0), asksAt(atD1, asks("eve", toEnd("note", "n-1")))),
		tells("they may not give", refused(4, 0), asksAt(atD1, asks("bob", toGive("eve", rule("j", 1))))),
		tells("they may not by the view", refused(4, 0), asksAt(atD2, asks("cy", toMake("note", "j-9", "lab")))).with(up(atD2)),
		tells("another version", impl.GateSaid{Code: 5, Version: 5}, asksAt(atD1, seen(20, toEnd("job", "j-2")))),
		tells("another version, by the newest view", impl.GateSaid{Code: 5, Version: 20}, asksAt(atD3, seen(5, toEnd("job", "j-2")))),
		tells("it is Ending", refused(6, 0), asksAt(atD1, toEnd("berth", "b-3"))),
		tells("it does not fit", refused(7, 1), asksAt(atD1, toMake("tag", "t-9", "lab", "x", "J"))),
		tells("it is fixed", refused(8, 2), asksAt(atD3, toChange("job", "j-2", "3", "3", "big", "b-3", "j-1", "j-1"))),
		tells("a link to an Ending one", refused(9, 3), asksAt(atD1, toMake("job", "j-9", "lab", "", "", "", "b-3", "", ""))),
		tells("a link to what the view has not", refused(9, 3), asksAt(atD2, toMake("job", "j-9", "lab", "", "", "", "b-3", "", ""))).with(up(atD2)),
		tells("no such hold", refused(11, 0), asksAt(atD1, toLetGo("job", "j-1", "h"))),
		tells("one object too many", refused(11, 0), asksAt(atD1, toMake("note", "y", "ops"))).with(inView(atD1, objectsUpTo(impl.GateMaxObjects))),
		tells("one grant too many", refused(11, 0), asksAt(atD1, toGive("bob", rule("", 1)))).with(inBook(atLast), inView(atD1, grantsUpTo(impl.GateMaxGrants))),
		tells("one version too many", refused(11, 0), asksAt(atD1, toEnd("note", "n-1"))).with(inBook(atLast), inView(atD1, atLast)),

		tells("it has all slips", refused(13, 0), asksAt(atD1, toEnd("note", "n-1"))).with(full(atD1)),
		tells("it has all slips, and the ask is not ok", refused(13, 0), asksAt(atD1, ask{})).with(full(atD1)),
		does("another one has all slips", atD3, toEnd("note", "n-1"), 9, onN1).with(full(atD1)),
		tells("not Up", refused(13, 0), asksAt(atD2, toMake("note", "n-9", "ops"))),
		tells("not Up, and the ask is not ok", refused(13, 0), asksAt(atD2, ask{})),
	})
}

func TestGateStepCommits(t *testing.T) {
	version := func(c stepCase, version int) stepCase {
		c.said.Version = version
		return c
	}
	madeJ9 := []func(b book){
		made(withHolds(object(0, "job", "j-9", "lab", "5", "2", "small", "b-1", "j-1", ""), "clean")),
		pays(myDevNeed, 5), pays(myLabFuel, 2), pays(myLabNeed, 5), emptied(myDevJob),
	}
	asked := func(a ask, wants ...want) slip { return slip{Door: "d-1", Ask: a, Given: 9, Wants: wants} }
	// refuses is a case in which the slip in the middle of three is gone, and the Book stays.
	refuses := func(what string, said impl.GateSaid, s slip, edits ...func(w world)) stepCase {
		return tells(what, said, brings(atD1, 1), gone(atD1, 1)).with(append(edits, hasSlips(atD1, endsJ2, s, endsN1))...)
	}
	checkSteps(t, []stepCase{
		version(happens("the first slip", brings(atD1, 0), gone(atD1, 0), next(madeJ9...)), 21),
		version(happens("a slip between others", brings(atD1, 1), gone(atD1, 1), next(ended(atN1))), 21),
		version(happens("the only slip", brings(atD3, 0), gone(atD3, 0), next(given("bob", "ann", rule("b", 1, 5)))), 21),
		version(happens("the last of all slips", brings(atD1, 5), gone(atD1, 5), next(taken(6))), 21).with(full(atD1)),
		version(happens("a change", brings(atD1, 0), gone(atD1, 0), next(turned(atB1, "20", "b", ""))), 21).with(hasSlips(atD1, asked(toChange("berth", "b-1", "20", "b", ""), onB1))),
		version(happens("a hold", brings(atD1, 0), gone(atD1, 0), next(letGo(atJ1, "count", "lock"))), 21).with(hasSlips(atD1, asked(toLetGo("job", "j-1", "clean"), onJ1))),
		version(happens("the last version that there may be", brings(atD1, 1), gone(atD1, 1), next(ended(atN1))), impl.GateMaxVersion).with(inBook(oneLeft)),

		tells("late", late(1), brings(atD1, 2), gone(atD1, 2)),
		refuses("late: the grants", late(0), slip{Door: "d-1", Ask: toTake(6), Given: 8}),
		refuses("late: the last of its wants", late(4), pierSlip(), inBook(func(b book) { b.Objects[atJ2].Version = 19 })),
		refuses("it is there", refused(3, 0), asked(toMake("note", "n-1", "dev"))),
		refuses("it is not there", refused(3, 0), asked(toEnd("note", "n-9"))),
		refuses("they may not", refused(4, 0), asked(asks("eve", toEnd("note", "n-1")), onN1)),
		refuses("they may not give", refused(4, 0), asked(asks("bob", toGive("eve", rule("j", 1))))),
		refuses("they may not by the Book, though by the view", refused(4, 0), asked(asks("eve", toEnd("note", "n-1")), onN1), inView(atD1, func(b book) { b.Grants[0].To = "eve" })),
		refuses("another version", impl.GateSaid{Code: 5, Version: 20}, asked(seen(5, toEnd("job", "j-2")))),
		refuses("it is Ending", refused(6, 0), asked(toEnd("berth", "b-3"), onB3)),
		refuses("it does not fit", refused(7, 1), asked(toMake("tag", "t-9", "lab", "x", "J"))),
		refuses("it is fixed", refused(8, 2), asked(toChange("job", "j-2", "3", "3", "big", "b-3", "j-1", "j-1"), onJ2)),
		refuses("a link to an Ending one", refused(9, 3), asked(toMake("job", "j-9", "lab", "", "", "", "b-3", "", ""), onJ9)),
		refuses("too dear", refused(10, labNeed), asked(toMake("job", "j-9", "lab", "11", "5", "", "", "", ""), onJ9)),
		refuses("too dear since", refused(10, devJob), makesJ9, inBook(emptied(myDevJob), frees(devJob, 1))),
		refuses("no such hold", refused(11, 0), asked(toLetGo("job", "j-1", "h"), onJ1)),
		refuses("one object too many", refused(11, 0), asked(toMake("note", "y", "ops")), inBook(objectsUpTo(impl.GateMaxObjects))),
		refuses("one grant too many", refused(11, 0), slip{Door: "d-1", Ask: toGive("bob", rule("", 1)), Given: 50}, inBook(grantsUpTo(impl.GateMaxGrants))),
		refuses("one version too many", refused(11, 0), endsN1, inBook(atLast)),

		tells("no slip: At is the number of slips", refused(13, 0), brings(atD1, 3)),
		tells("no slip: At is greater", refused(13, 0), brings(atD1, 4)),
		tells("no slip: the greatest At", refused(13, 0), brings(atD1, math.MaxInt)),
		tells("no slip: At below 0", refused(13, 0), brings(atD1, -1)),
		tells("no slip: the least At", refused(13, 0), brings(atD1, math.MinInt)),
		tells("no slips at all", refused(13, 0), brings(atD1, 0)).with(hasSlips(atD1)),
		tells("one behind all that there may be", refused(13, 0), brings(atD1, 6)).with(full(atD1)),
		tells("what another door has", refused(13, 0), brings(atD3, 1)),
		tells("not Up", refused(13, 0), brings(atD2, 0)),
	})
}

func TestGateStepLoses(t *testing.T) {
	checkSteps(t, []stepCase{
		happens("the first slip", drops(atD1, 0), gone(atD1, 0)),
		happens("a slip between others", drops(atD1, 1), gone(atD1, 1)),
		happens("the last slip", drops(atD1, 2), gone(atD1, 2)),
		happens("the only slip", drops(atD3, 0), gone(atD3, 0)),
		happens("the last of all slips", drops(atD1, 5), gone(atD1, 5)).with(full(atD1)),
		happens("one of two that are the same", drops(atD1, 0), hasSlips(atD1, endsN1)).with(hasSlips(atD1, endsN1, endsN1)),
		happens("a slip that would not be done", drops(atD1, 0), hasSlips(atD1)).with(hasSlips(atD1, endsJ2)),

		tells("no slip: At is the number of slips", refused(13, 0), drops(atD1, 3)),
		tells("no slip: At is greater", refused(13, 0), drops(atD1, 4)),
		tells("no slip: the greatest At", refused(13, 0), drops(atD1, math.MaxInt)),
		tells("no slip: At below 0", refused(13, 0), drops(atD1, -1)),
		tells("no slip: the least At", refused(13, 0), drops(atD1, math.MinInt)),
		tells("no slips at all", refused(13, 0), drops(atD1, 0)).with(hasSlips(atD1)),
		tells("one behind all that there may be", refused(13, 0), drops(atD1, 6)).with(full(atD1)),
		tells("what another door has", refused(13, 0), drops(atD3, 1)),
		tells("not Up", refused(13, 0), drops(atD2, 0)),
	})
}

// crowded has as many purses as there may be; none of them is of a door of pierWorld's.
func crowded(b book) {
	b.Purses = nil
	for i := range impl.GateMaxPurses {
		b.Purses = append(b.Purses, impl.GatePurse{Door: "e-" + strconv.Itoa(10+i), Team: "dev", Resource: "need", Amount: 1, Until: b.Tick})
	}
	settle(pierLaw(), b)
}

func TestGateStepDraws(t *testing.T) {
	drawn := func(purse, ledger, amount int) func(w world) {
		return inBook(func(b book) {
			b.Purses[purse].Amount += amount
			b.Purses[purse].Until = b.Tick + impl.GatePurseLife
			b.Ledgers[ledger].Free -= amount
		})
	}
	newPurse := func(name string, ledger, amount int) func(w world) {
		return inBook(func(b book) {
			of := &b.Ledgers[ledger]
			of.Free -= amount
			b.Purses = append(b.Purses, impl.GatePurse{Door: name, Team: of.Team, Resource: of.Resource, Amount: amount, Until: b.Tick + impl.GatePurseLife})
			inOrder(b)
		})
	}
	checkSteps(t, []stepCase{
		happens("into a purse", draws(atD1, "dev", "job", 1), drawn(myDevJob, devJob, 1)),
		happens("all that is free", draws(atD1, "dev", "need", 14), drawn(myDevNeed, devNeed, 14)),
		happens("a new purse", draws(atD3, "dev", "need", 2), newPurse("d-3", devNeed, 2)),
		happens("a new purse between others", draws(atD2, "yard", "fuel", 4), newPurse("d-2", yardFuel, 4)).with(up(atD2)),
		happens("by a door that does not see the ledger", draws(atD1, "dev", "job", 1), drawn(myDevJob, devJob, 1)).with(inView(atD1, noLedgers)),

		tells("no such ledger", refused(2, 0), draws(atD1, "dev", "gold", 1)),
		tells("a ledger of the view alone", refused(2, 0), draws(atD1, "dev", "job", 1)).with(inBook(noLedgers)),
		tells("nothing", refused(2, 0), draws(atD1, "dev", "job", 0)),
		tells("less than nothing", refused(2, 0), draws(atD1, "dev", "job", math.MinInt)),
		tells("more than there may be", refused(2, 0), draws(atD1, "dev", "job", impl.GateMaxNumber+1)),
		tells("no team", refused(2, 0), draws(atD1, "", "job", 1)),
		tells("no resource", refused(2, 0), draws(atD1, "dev", "", 1)),
		tells("one more than is free", refused(3, 0), draws(atD1, "dev", "need", 15)),
		tells("nothing is free", refused(3, 0), draws(atD3, "lab", "fuel", 1)),
		tells("one purse too many", refused(4, 0), draws(atD1, "dev", "need", 1)).with(inBook(crowded)),
		tells("not Up", refused(13, 0), draws(atD2, "dev", "need", 1)),
	})
}

func TestGateStepBacks(t *testing.T) {
	back := func(purse, ledger int) func(w world) {
		return inBook(func(b book) { frees(ledger, b.Purses[purse].Amount)(b) }, emptied(purse))
	}
	checkSteps(t, []stepCase{
		happens("the first purse", backs(atD1, "dev", "job"), back(myDevJob, devJob)),
		happens("a purse that another door has too", backs(atD1, "dev", "need"), back(myDevNeed, devNeed)),
		happens("the last purse", backs(atD2, "ops", "room"), back(otherOpsRoom, opsRoom)).with(up(atD2)),

		tells("no purse of the door", refused(2, 0), backs(atD3, "dev", "need")),
		tells("no purse of the ledger", refused(2, 0), backs(atD1, "ops", "room")),
		tells("no ledger", refused(2, 0), backs(atD1, "dev", "gold")),
		tells("nothing", refused(2, 0), backs(atD1, "", "")),
		tells("a purse of the view alone", refused(2, 0), backs(atD1, "dev", "job")).with(inBook(noPurses)),
		tells("not Up, with a purse", refused(13, 0), backs(atD2, "ops", "room")),
	})
}

func TestGateStepTicks(t *testing.T) {
	checkSteps(t, []stepCase{
		happens("a purse is over", ticks(), inBook(func(b book) { b.Tick = 6 }, emptied(myDevJob), frees(devJob, 1))),
		happens("no purse is over", ticks(), inBook(func(b book) { b.Tick = 6 })).with(inBook(emptied(myDevJob), frees(devJob, 1))),
		happens("no doors", ticks(), inBook(func(b book) { b.Tick = 6 }, emptied(myDevJob), frees(devJob, 1))).with(func(w world) { w.Doors = nil }),
		happens("no door is Up", ticks(), inBook(func(b book) { b.Tick = 6 }, emptied(myDevJob), frees(devJob, 1))).with(down(atD1), down(atD3)),
		happens("the last tick", ticks(), inBook(func(b book) { b.Tick = impl.GateMaxNumber })).with(inBook(noPurses, func(b book) { b.Tick = impl.GateMaxNumber - 1 })),
		tells("a tick too many", refused(2, 0), ticks()).with(inBook(noPurses, func(b book) { b.Tick = impl.GateMaxNumber })),
		tells("a tick too many, with purses", refused(2, 0), ticks()).with(inBook(func(b book) { shiftTicks(b, impl.GateMaxNumber-b.Tick) })),
	})
}

func TestGateStepDiesAndRises(t *testing.T) {
	checkSteps(t, []stepCase{
		happens("a door with slips and purses dies", dies(atD1), down(atD1)),
		happens("the last door dies", dies(atD3), down(atD3)),
		happens("a door with all slips dies", dies(atD1), down(atD1)).with(full(atD1)),
		happens("a door without slips dies", dies(atD1), down(atD1)).with(hasSlips(atD1)),
		happens("the last door that is Up dies", dies(atD3), down(atD3)).with(down(atD1)),
		tells("what is not Up dies", refused(13, 0), dies(atD2)),
		happens("a door rises, its View as it was", rises(atD2), up(atD2)),
		happens("the first door rises", rises(atD1), up(atD1)).with(down(atD1)),
		tells("what is Up rises", refused(13, 0), rises(atD1)),
		tells("what is Up, and has no slips, rises", refused(13, 0), rises(atD3)).with(hasSlips(atD3)),
	})
}

func TestGateStepSweeps(t *testing.T) {
	ends := func(place int) func(b book) { return func(b book) { b.Objects[place].Ending = true } }
	holds := func(place int) func(b book) { return func(b book) { b.Objects[place].Holds = texts{"lock"} } }
	unheld := func(b book) { b.Objects[atJ3].Holds = nil }
	checkSteps(t, []stepCase{
		happens("one goes", sweeps(), inBook(func(b book) { b.Objects = slices.Delete(b.Objects, atJ3, atJ3+1) })).with(inBook(unheld)),
		happens("some become Ending", sweeps(), next(ended(atJ2)), next(ended(atT1))).with(inBook(ends(atJ1), holds(atJ2), holds(atT1))),
		happens("one goes, and another leaned on it", sweeps(), next(turned(atJ1, "8", "1", "big", "b-1", "", "")), inBook(func(b book) { b.Objects = slices.Delete(b.Objects, atJ3, atJ3+1) })).
			with(inBook(unheld, func(b book) { b.Objects[atJ1].Values[5] = "j-3" })),
		happens("what goes is free", sweeps(), inBook(func(b book) { b.Objects = slices.Delete(b.Objects, atJ2, atJ2+1) },
			frees(devJob, 1), frees(devNeed, 3), frees(labFuel, 3), frees(labNeed, 3), frees(yardFuel, 3)),
			inBook(func(b book) { b.Objects = slices.Delete(b.Objects, atB3, atB3+1) })).with(inBook(ends(atJ2))),
		happens("no doors", sweeps(), inBook(func(b book) { b.Objects = slices.Delete(b.Objects, atJ3, atJ3+1) })).with(inBook(unheld), func(w world) { w.Doors = nil }),
		happens("the last version", sweeps(), inBook(func(b book) { b.Objects = slices.Delete(b.Objects, atJ3, atJ3+1) })).with(inBook(unheld, atLast)),
		tells("nothing to do", refused(2, 0), sweeps()),
		tells("nothing to do, though by a view", refused(2, 0), sweeps()).with(inView(atD1, unheld)),
		tells("one version too many", refused(3, 0), sweeps()).with(inBook(ends(atJ1), oneLeft)),
	})
}

func TestGateStepBinds(t *testing.T) {
	bound := func(ledger, most int) func(w world) {
		return inBook(func(b book) {
			b.Ledgers[ledger].Free += most - b.Ledgers[ledger].Most
			b.Ledgers[ledger].Most = most
		})
	}
	newLedger := func(team, resource string, most, free int) func(w world) {
		return inBook(func(b book) {
			b.Ledgers = append(b.Ledgers, impl.GateLedger{Team: team, Resource: resource, Most: most, Free: free})
			inOrder(b)
		})
	}
	tenLedgers := func(b book) {
		for i := 0; len(b.Ledgers) < impl.GateMaxLedgers; i++ {
			b.Ledgers = append(b.Ledgers, impl.GateLedger{Team: "ops", Resource: "r-" + strconv.Itoa(i), Most: 1, Free: 1})
		}
		inOrder(b)
	}
	checkSteps(t, []stepCase{
		happens("more", binds("dev", "need", 45), bound(devNeed, 45)),
		happens("less", binds("dev", "need", 39), bound(devNeed, 39)),
		happens("no more than is used and drawn", binds("dev", "need", 26), bound(devNeed, 26)),
		happens("as much as there may be", binds("ops", "room", impl.GateMaxNumber), bound(opsRoom, impl.GateMaxNumber)),
		happens("a new ledger", binds("ops", "gold", 7), newLedger("ops", "gold", 7, 7)),
		happens("a new ledger of what is used", binds("dev", "room", 30), newLedger("dev", "room", 30, 10)),
		happens("no doors", binds("ops", "gold", 7), newLedger("ops", "gold", 7, 7)).with(func(w world) { w.Doors = nil }),

		tells("no team of the law's", refused(2, 0), binds("ghost", "need", 5)),
		tells("no team", refused(2, 0), binds("", "need", 5)),
		tells("no resource", refused(2, 0), binds("dev", "", 5)),
		tells("a bound below 0", refused(2, 0), binds("dev", "need", -1)),
		tells("more than there may be", refused(2, 0), binds("dev", "need", impl.GateMaxNumber+1)),
		tells("one less than is used and drawn", refused(3, 0), binds("dev", "need", 25)),
		tells("a new ledger of less than is used", refused(3, 0), binds("dev", "room", 19)),
		tells("one ledger too many", refused(4, 0), binds("yard", "gold", 5)).with(inBook(tenLedgers)),
	})
}

// atDoors has an event of each kind that is of a door, which would happen at a door that is as it asks.
func atDoors(place int) []event {
	return []event{
		looks(place), asksAt(place, toMake("note", "n-9", "dev")), brings(place, 0), drops(place, 0),
		draws(place, "dev", "need", 1), backs(place, "dev", "need"), dies(place), rises(place),
	}
}

func TestGateStepWithoutADoor(t *testing.T) {
	for _, place := range []int{math.MinInt, -4, -1, 3, 4, 5, math.MaxInt} {
		for _, e := range atDoors(place) {
			checkStep(t, tells("no door "+strconv.Itoa(place), refused(13, 0), e))
			checkStep(t, tells("no door, all are Up, "+strconv.Itoa(place), refused(13, 0), e).with(up(atD2)))
		}
	}
	for place := range 3 {
		for _, e := range atDoors(place) {
			checkStep(t, tells("no doors", refused(13, 0), e).with(func(w world) { w.Doors = nil }))
		}
	}
	for _, e := range atDoors(impl.GateMaxDoors) {
		checkStep(t, tells("one behind all doors that there may be", refused(13, 0), e).with(manyDoors(impl.GateMaxDoors)))
	}
}

// Which events a dead door can have: none but to rise.
func TestGateStepOfADeadDoor(t *testing.T) {
	for place := range pierWorld().Doors {
		for _, e := range atDoors(place) {
			c := tells("not Up", refused(13, 0), e).with(down(place))
			if e.Kind == impl.GateRises {
				c = happens("not Up", e, up(place)).with(down(place))
			}
			checkStep(t, c)
		}
	}
	// What is of no door goes on while all doors are dead.
	allDown := eachOf(down(atD1), down(atD2), down(atD3))
	for _, e := range []event{ticks(), binds("ops", "gold", 7), sweeps()} {
		w := pierWorld()
		allDown(&w)
		w.Book.Objects[atJ3].Holds = nil
		if got, said := impl.GateStep(pierLaw(), w, e); said != (impl.GateSaid{}) || same(got.Book, w.Book) || !same(got.Doors, w.Doors) {
			t.Errorf("%d: %+v", e.Kind, said)
		}
	}
}

func TestGateStepOfNoKind(t *testing.T) {
	t.Parallel()
	for _, kind := range []int{math.MinInt, -11, -1, 0, 12, 13, 14, 256 + 7, 1<<32 + 7, math.MaxInt} {
		for _, other := range append(otherEvents(), atDoors(atD1)...) {
			other.Kind = kind
			checkStep(t, tells("kind "+strconv.Itoa(kind), refused(13, 0), other))
		}
	}
}

// allEvents has one of each kind, and some of none.
func allEvents() []event {
	return append(atDoors(0), ticks(), sweeps(), binds("dev", "need", 45), event{}, event{Kind: 12}, looks(-1), rises(1))
}

func TestGateStepOfWhatIsNotOk(t *testing.T) {
	none := func(what string, l impl.GateLaw, w impl.GateWorld) {
		t.Helper()
		for _, e := range allEvents() {
			l, w, e := spread(l), spread(w), spread(e)
			lawAhead, worldAhead, eventAhead := whole(l), whole(w), whole(e)
			if got, said := impl.GateStep(l, w, e); said != refused(1, 0) || !same(got, impl.GateWorld{}) {
				t.Errorf("%s, %d: %+v and %+v", what, e.Kind, said, got)
			}
			if !same(whole(l), lawAhead) || !same(whole(w), worldAhead) || !same(whole(e), eventAhead) {
				t.Errorf("%s, %d: an argument is changed", what, e.Kind)
			}
		}
	}
	for what, l := range badLaws() {
		none(what, l, impl.GateWorld{})
		none(what, l, impl.GateWorld{Doors: []door{{Name: "d", Up: true}}})
	}
	for what, b := range badBooks() {
		w := pierWorld()
		w.Book = b
		none("the Book: "+what, pierLaw(), w)
		for place := range w.Doors {
			w := pierWorld()
			atLast(&w.Book)
			w.Doors[place].View = b
			none("a View: "+what, pierLaw(), w)
		}
	}
	for what, edit := range map[string]func(w world){
		"one door too many":             manyDoors(impl.GateMaxDoors + 1),
		"doors out of order":            func(w world) { slices.Reverse(w.Doors) },
		"a door that is no name":        func(w world) { w.Doors[atD3].Name = "dd_" },
		"a View newer than the Book":    inView(atD3, func(b book) { b.Now++ }),
		"one slip too many":             hasSlips(atD1, slices.Repeat([]slip{endsN1}, impl.GateMaxSlips+1)...),
		"a slip that is not ok":         hasSlips(atD1, slip{Door: "d-1"}),
		"the slip of another door":      hasSlips(atD1, gives),
		"a slip of a door that is dead": hasSlips(atD2, slip{Door: "d-2", Ask: toTake(3), Given: 3}),
	} {
		w := pierWorld()
		edit(&w)
		none(what, pierLaw(), w)
	}
}

// A row of steps: what a door sees, asks and brings, and what others do meanwhile.
func TestGateStepInARow(t *testing.T) {
	l := pierLaw()
	w := impl.GateWorld{Book: pierBook(), Doors: []door{{Name: "d-1"}, {Name: "d-2"}}}
	for i, c := range []struct {
		event event
		said  impl.GateSaid
		slips [2]int
	}{
		{looks(0), refused(13, 0), [2]int{0, 0}},
		{rises(0), impl.GateSaid{}, [2]int{0, 0}},
		{asksAt(0, toEnd("note", "n-1")), refused(3, 0), [2]int{0, 0}},
		{looks(0), impl.GateSaid{}, [2]int{0, 0}},
		{asksAt(0, toEnd("note", "n-1")), impl.GateSaid{}, [2]int{1, 0}},
		{asksAt(0, toEnd("note", "n-1")), impl.GateSaid{}, [2]int{2, 0}},
		{asksAt(0, toTake(9)), impl.GateSaid{}, [2]int{3, 0}},
		{rises(1), impl.GateSaid{}, [2]int{3, 0}},
		{looks(1), impl.GateSaid{}, [2]int{3, 0}},
		{asksAt(1, toMake("berth", "b-9", "ops", "12", "", "")), impl.GateSaid{}, [2]int{3, 1}},
		{brings(0, 1), impl.GateSaid{Version: 21}, [2]int{2, 1}},
		{brings(0, 0), late(1), [2]int{1, 1}},
		{asksAt(0, toEnd("note", "n-1")), impl.GateSaid{}, [2]int{2, 1}},
		{looks(0), impl.GateSaid{}, [2]int{2, 1}},
		{asksAt(0, toEnd("note", "n-1")), refused(6, 0), [2]int{2, 1}},
		{sweeps(), impl.GateSaid{}, [2]int{2, 1}},
		{sweeps(), refused(2, 0), [2]int{2, 1}},
		{backs(1, "ops", "room"), impl.GateSaid{}, [2]int{2, 1}},
		{brings(1, 0), refused(10, opsRoom), [2]int{2, 0}},
		{draws(1, "ops", "room", 12), impl.GateSaid{}, [2]int{2, 0}},
		{asksAt(1, toMake("berth", "b-9", "ops", "12", "", "")), impl.GateSaid{}, [2]int{2, 1}},
		{brings(1, 0), impl.GateSaid{Version: 22}, [2]int{2, 0}},
		{asksAt(1, toMake("berth", "b-9", "ops", "12", "", "")), impl.GateSaid{}, [2]int{2, 1}},
		{brings(0, 0), impl.GateSaid{Version: 23}, [2]int{1, 1}},
		{brings(1, 0), late(0), [2]int{1, 0}},
		{dies(0), impl.GateSaid{}, [2]int{0, 0}},
		{brings(0, 0), refused(13, 0), [2]int{0, 0}},
		{rises(0), impl.GateSaid{}, [2]int{0, 0}},
		{brings(0, 0), refused(13, 0), [2]int{0, 0}},
		{asksAt(0, toMake("note", "n-1", "dev")), refused(3, 0), [2]int{0, 0}},
	} {
		next, said := impl.GateStep(l, w, c.event)
		slips := [2]int{}
		for place := range next.Doors {
			slips[place] = len(next.Doors[place].Slips)
		}
		if said != c.said || slips != c.slips {
			t.Fatalf("%d: %+v and %v slips, not %+v and %v", i, said, slips, c.said, c.slips)
		}
		w = next
	}
	if len(w.Book.Objects) != 8 || placeOf(w.Book, thing{"berth", "b-9"}) < 0 || placeOf(w.Book, thing{"note", "n-1"}) >= 0 || len(w.Book.Grants) != 4 {
		t.Errorf("%+v", w.Book)
	}
}

// A View is what the Book was, whatever becomes of the Book.
func TestGateStepViewsStay(t *testing.T) {
	l := pierLaw()
	w, _ := impl.GateStep(l, pierWorld(), looks(atD1))
	seen := spread(w.Doors[atD1].View)
	for _, e := range []event{brings(atD1, 1), ticks(), binds("dev", "need", 50), draws(atD1, "dev", "need", 2), brings(atD3, 0), asksAt(atD1, toEnd("job", "j-1")), brings(atD1, 2), sweeps()} {
		w, _ = impl.GateStep(l, w, e)
		if !same(w.Doors[atD1].View, seen) || same(w.Book, seen) {
			t.Errorf("%d: the view is %+v", e.Kind, w.Doors[atD1].View)
		}
	}
}

// Nothing that is answered is kept: what is written into it later is not seen in what follows.
func TestGateStepKeepsNothing(t *testing.T) {
	l := pierLaw()
	for _, e := range allEvents() {
		first, said := impl.GateStep(l, pierWorld(), e)
		kept := spread(first)
		wipe(&first.Book)
		for i := range first.Doors {
			wipe(&first.Doors[i].View)
			for j := range first.Doors[i].Slips {
				first.Doors[i].Slips[j] = slip{}
			}
			first.Doors[i] = door{}
		}
		if again, saidAgain := impl.GateStep(l, pierWorld(), e); said != saidAgain || !same(again, kept) {
			t.Errorf("%d: %+v and then %+v", e.Kind, said, saidAgain)
		}
	}
}
