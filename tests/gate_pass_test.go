package tests

import (
	"math"
	"slices"
	"strconv"
	"testing"

	"loop.example/wharfdesk/impl"
)

// passCase says what asking makes of pierBook, turned by edit ahead of it.
type passCase struct {
	what string
	door string
	ask  ask
	edit func(b book)
	// said is what is answered, but for the Version where the Code is 0.
	said impl.GateSaid
	// want turns the book to what it is behind the ask, where the Code is 0; Now is that by then.
	want func(b book)
}

func checkPass(t *testing.T, c passCase) {
	t.Helper()
	l, b, want := pierLaw(), pierBook(), pierBook()
	if c.edit != nil {
		c.edit(&b)
		c.edit(&want)
	}
	if !impl.GateBookOk(l, b) {
		t.Errorf("%s: the book was not ok", c.what)
	}
	if c.said.Code == 0 {
		want.Now++
		c.said.Version = want.Now
		c.want(&want)
	}
	if c.said.Code == 1 || c.said.Code == 2 {
		want = impl.GateBook{}
	}
	l, b, a := spread(l), spread(b), spread(c.ask)
	lawAhead, bookAhead, askAhead := whole(l), whole(b), whole(a)
	got, said := impl.GatePass(l, b, c.door, a)
	if said != c.said || !same(got, want) {
		t.Errorf("%s: %+v and %+v, not %+v and %+v", c.what, said, got, c.said, want)
	}
	if !impl.GateBookOk(l, got) || !bookIsOk(l, got) {
		t.Errorf("%s: the book behind it is not ok", c.what)
	}
	if !same(whole(l), lawAhead) || !same(whole(b), bookAhead) || !same(whole(a), askAhead) {
		t.Errorf("%s: an argument is changed", c.what)
	}
	newMemory(t, c.what, got, l, b, a)
	checkSlipsBeside(t, c, l, b, a)
}

// refused is what is told with a code that tells a place at most.
func refused(code, place int) impl.GateSaid {
	return impl.GateSaid{Code: code, Place: place}
}

// refusal is a case through the door d-1.
func refusal(what string, a ask, said impl.GateSaid, edits ...func(b book)) passCase {
	return passCase{what: what, door: "d-1", ask: a, edit: each(edits...), said: said}
}

// done is a case through the door d-1; wants say what else changes than Now.
func done(what string, a ask, wants ...func(b book)) passCase {
	return passCase{what: what, door: "d-1", ask: a, want: each(wants...)}
}

func through(door string, c passCase) passCase {
	c.door = door
	return c
}

// with sets what is done to the book ahead of a case.
func (c passCase) with(edits ...func(b book)) passCase {
	c.edit = each(edits...)
	return c
}

func each(edits ...func(b book)) func(b book) {
	return func(b book) {
		for _, edit := range edits {
			edit(b)
		}
	}
}

// The places of pierBook's objects, ledgers and purses.
const (
	atB1, atB2, atB3, atJ1, atJ2, atJ3, atN1, atT1        = 0, 1, 2, 3, 4, 5, 6, 7
	devJob, devNeed, labFuel, labNeed, opsRoom, yardFuel  = 0, 1, 2, 3, 4, 5
	myDevJob, myDevNeed, myLabFuel, myLabNeed, myYardFuel = 0, 1, 2, 3, 4
	otherOpsRoom                                          = 7
)

func made(o impl.GateObject) func(b book) {
	return func(b book) {
		o.Version = b.Now
		b.Objects = append(b.Objects, o)
		inOrder(b)
	}
}

func turned(place int, values ...string) func(b book) {
	return func(b book) {
		b.Objects[place].Values, b.Objects[place].Version = values, b.Now
	}
}

func ended(place int) func(b book) {
	return func(b book) {
		b.Objects[place].Ending, b.Objects[place].Version = true, b.Now
	}
}

func letGo(place int, left ...string) func(b book) {
	return func(b book) {
		b.Objects[place].Holds, b.Objects[place].Version = left, b.Now
	}
}

func given(to, by string, r impl.GateRule) func(b book) {
	return func(b book) {
		b.Grants = append(b.Grants, impl.GateGrant{Number: b.Now, To: to, By: by, Rule: r})
		b.Given = b.Now
	}
}

func taken(number int) func(b book) {
	return func(b book) {
		b.Grants = slices.DeleteFunc(b.Grants, func(g impl.GateGrant) bool { return g.Number == number })
		b.Given = b.Now
	}
}

func pays(place, amount int) func(b book) {
	return func(b book) { b.Purses[place].Amount -= amount }
}

// emptied takes purses out, by their places ahead of that.
func emptied(places ...int) func(b book) {
	return func(b book) { takeOut(b, places...) }
}

func frees(place, amount int) func(b book) {
	return func(b book) { b.Ledgers[place].Free += amount }
}

// purseOf is what a purse is to have; the ledger bounds so much more, or less.
func purseOf(place, amount int) func(b book) {
	return func(b book) {
		p := &b.Purses[place]
		for i := range b.Ledgers {
			if b.Ledgers[i].Team == p.Team && b.Ledgers[i].Resource == p.Resource {
				b.Ledgers[i].Most += amount - p.Amount
			}
		}
		p.Amount = amount
	}
}

// was turns an object ahead of an ask; what it is then weighs as much as before, or the ledgers bound that.
func was(place int, edit func(o *impl.GateObject)) func(b book) {
	return func(b book) {
		edit(&b.Objects[place])
		for i := range b.Ledgers {
			ledger := &b.Ledgers[i]
			ledger.Most = ledger.Free + usedBy(pierLaw(), *b, ledger.Team, ledger.Resource) + drawnFrom(*b, ledger.Team, ledger.Resource)
		}
	}
}

func atLast(b book) { b.Now = impl.GateMaxVersion }

func oneLeft(b book) { b.Now = impl.GateMaxVersion - 1 }

func noLedgers(b book) { b.Ledgers, b.Purses = nil, nil }

func noPurses(b book) {
	b.Purses = nil
	settle(pierLaw(), b)
}

func grantsUpTo(n int) func(b book) {
	return func(b book) {
		b.Now, b.Given = 60, 50
		for i := 10; len(b.Grants) < n; i++ {
			b.Grants = append(b.Grants, impl.GateGrant{Number: i, To: "eve", Rule: rule("e", 1)})
		}
	}
}

func objectsUpTo(n int) func(b book) {
	return func(b book) { manyNotes(b, n) }
}

func checkPasses(t *testing.T, list []passCase) {
	t.Helper()
	for _, c := range list {
		checkPass(t, c)
	}
}

func TestGatePassMake(t *testing.T) {
	plain := func(name, team string) impl.GateObject { return object(0, "note", name, team) }
	checkPasses(t, []passCase{
		done("all that it may have", holding(toMake("job", "j-9", "lab", "5", "2", "small", "b-1", "j-1", "j-2"), "clean", "count", "lock"),
			made(withHolds(object(0, "job", "j-9", "lab", "5", "2", "small", "b-1", "j-1", "j-2"), "clean", "count", "lock")),
			pays(myDevNeed, 5), pays(myLabFuel, 2), pays(myLabNeed, 5), emptied(myDevJob)),
		done("without fields", toMake("note", "n-2", "dev"), made(plain("n-2", "dev"))),
		done("ahead of all", toMake("berth", "a", "dev", "1", "", ""), made(object(0, "berth", "a", "dev", "1", "a", ""))),
		done("behind all", toMake("tag", "t-2", "ops", "y", "j-1"), made(object(0, "tag", "t-2", "ops", "y", "j-1"))),
		done("a Name that begins another one", toMake("note", "n", "dev"), made(plain("n", "dev"))),
		done("a Name that another kind has", toMake("note", "j-1", "dev"), made(plain("j-1", "dev"))),
		done("a Name that somebody and a team have", toMake("note", "dev", "dev"), made(plain("dev", "dev"))),
		done("a Name of all its bytes", toMake("note", letters(impl.GateMaxName), "ops"), made(plain(letters(impl.GateMaxName), "ops"))),
		done("the first object", toMake("note", "n", "ops"), made(plain("n", "ops"))).with(func(b book) { b.Objects = nil; noLedgers(b) }),
		done("the last object that there may be", toMake("note", "y", "ops"), made(plain("y", "ops"))).with(objectsUpTo(impl.GateMaxObjects - 1)),
		done("the last version that there may be", toMake("note", "y", "ops"), made(plain("y", "ops"))).with(oneLeft),

		done("filled by a default", toMake("job", "j-9", "ops", "", "", "", "", "", ""), made(object(0, "job", "j-9", "ops", "1", "", "", "", "", ""))),
		done("what is filled weighs", toMake("job", "j-9", "lab", "", "", "", "", "", ""), made(object(0, "job", "j-9", "lab", "1", "", "", "", "", "")),
			pays(myDevNeed, 1), pays(myLabNeed, 1), emptied(myDevJob)),
		done("mended, by a mend that was mended by one", toMake("job", "j-9", "ops", "3", "9", "small", "", "", ""), made(object(0, "job", "j-9", "ops", "8", "9", "big", "", "", ""))),
		done("what is mended weighs", toMake("job", "j-9", "lab", "1", "", "big", "", "", ""), made(object(0, "job", "j-9", "lab", "8", "", "big", "", "", "")),
			pays(myDevNeed, 8), pays(myLabNeed, 8), emptied(myDevJob)),
		done("what would be too dear, were it not mended", toMake("job", "j-9", "lab", "32", "", "big", "", "", ""), made(object(0, "job", "j-9", "lab", "8", "", "big", "", "", "")),
			pays(myDevNeed, 8), pays(myLabNeed, 8), emptied(myDevJob)),
		done("what must be set, set by a mend", toMake("berth", "b-9", "dev", "", "b", "7"), made(object(0, "berth", "b-9", "dev", "7", "b", "7"))),
		done("what does not fit, mended", toMake("berth", "b-9", "dev", "x", "b", "64"), made(object(0, "berth", "b-9", "dev", "64", "b", "64"))),

		done("of the team under two", toMake("job", "j-9", "yard", "2", "1", "", "", "", ""), made(object(0, "job", "j-9", "yard", "2", "1", "", "", "", "")),
			pays(myDevNeed, 2), pays(myLabFuel, 1), pays(myLabNeed, 2), pays(myYardFuel, 1), emptied(myDevJob)),
		done("of the team over two", toMake("job", "j-9", "dev", "12", "9", "", "", "", ""), made(object(0, "job", "j-9", "dev", "8", "9", "big", "", "", "")),
			pays(myDevNeed, 8), emptied(myDevJob)),
		done("all that the purses have", toMake("job", "j-9", "yard", "10", "2", "", "", "", ""), made(object(0, "job", "j-9", "yard", "10", "2", "", "", "", "")),
			pays(myDevNeed, 10), pays(myLabFuel, 2), emptied(myDevJob, myLabNeed, myYardFuel)),
		through("d-2", done("through the other door", toMake("berth", "b-9", "ops", "11", "", ""), made(object(0, "berth", "b-9", "ops", "11", "a", "")), pays(otherOpsRoom, 11))),
		through("d-2", done("all that the other door has", toMake("berth", "b-9", "ops", "12", "", ""), made(object(0, "berth", "b-9", "ops", "12", "a", "")), emptied(otherOpsRoom))),
		through("e", done("through a door without purses, what weighs nothing", toMake("note", "n", "lab"), made(plain("n", "lab")))),
		through("e", done("through a door without purses, what no ledger bounds", toMake("berth", "b-9", "lab", "64", "", ""), made(object(0, "berth", "b-9", "lab", "64", "a", "")))),
		through(letters(impl.GateMaxName), done("a door of all its bytes", toMake("note", "n", "lab"), made(plain("n", "lab")))),
		through("e", done("without ledgers", toMake("job", "j-9", "lab", "32", "8", "", "", "", ""), made(object(0, "job", "j-9", "lab", "32", "8", "", "", "", "")))).with(noLedgers),
		done("what is free is left alone", toMake("note", "n", "lab"), made(plain("n", "lab"))).with(noPurses),

		done("the right of a team", asks("bob", toMake("note", "j-9", "lab")), made(plain("j-9", "lab"))),
		done("the right of a team under it", asks("bob", toMake("note", "j-9", "yard")), made(plain("j-9", "yard"))),
	})
}

func TestGatePassMakeRefused(t *testing.T) {
	blank := texts{"", "", "", "", "", ""}
	checkPasses(t, []passCase{
		refusal("it is there", toMake("job", "j-1", "lab", blank...), refused(3, 0)),
		refusal("it is there, in another team", toMake("job", "j-1", "ops", blank...), refused(3, 0)),
		refusal("it is there, Ending", toMake("berth", "b-3", "dev", "1", "", ""), refused(3, 0)),
		refusal("it is there, the first", toMake("berth", "b-1", "dev", "1", "", ""), refused(3, 0)),
		refusal("it is there, the last", toMake("tag", "t-1", "lab", "x", "j-1"), refused(3, 0)),

		refusal("no grants", asks("eve", toMake("note", "n", "dev")), refused(4, 0)),
		refusal("not the verb", asks("dan", toMake("berth", "b-9", "dev", "1", "", "")), refused(4, 0)),
		refusal("not the ask's team", asks("bob", toMake("note", "j-9", "dev")), refused(4, 0)),
		refusal("not the name", asks("bob", toMake("note", "n", "lab")), refused(4, 0)),
		refusal("not the kind", asks("eve", toMake("note", "n", "dev")), refused(4, 0), func(b book) { b.Grants[4].To, b.Grants[4].Rule = "eve", ofKind("berth", rule("", 1)) }),
		refusal("one grant has the verb, and one the team", asks("cy", toMake("job", "j-9", "ops", blank...)), refused(4, 0)),

		refusal("not set", toMake("berth", "b-9", "dev", "", "", ""), refused(7, 0)),
		refusal("not set, the first of two", toMake("tag", "t-9", "dev", "", ""), refused(7, 0)),
		refusal("not set, the second of two", toMake("tag", "t-9", "dev", "x", ""), refused(7, 1)),
		refusal("a number below Least", toMake("berth", "b-9", "dev", "0", "", ""), refused(7, 0)),
		refusal("a number above Most", toMake("berth", "b-9", "dev", "65", "", ""), refused(7, 0)),
		refusal("no word of it", toMake("berth", "b-9", "dev", "1", "c", ""), refused(7, 1)),
		refusal("no decimal, the last", toMake("berth", "b-9", "dev", "1", "a", "07"), refused(7, 0)),
		refusal("what is mended does not fit: too great", toMake("berth", "b-9", "dev", "1", "", "65"), refused(7, 0)),
		refusal("what is mended does not fit: too small", toMake("berth", "b-9", "dev", "1", "", "0"), refused(7, 0)),
		refusal("a text too long", toMake("tag", "t-9", "dev", "xxxxx", "j-1"), refused(7, 0)),
		refusal("a link that is no name", toMake("tag", "t-9", "dev", "x", "J"), refused(7, 1)),
		refusal("a link that is no name, the last", toMake("job", "j-9", "ops", "", "", "", "", "", "J 1"), refused(7, 5)),
		refusal("the first of two that do not fit", toMake("job", "j-9", "ops", "", "x", "y", "", "", ""), refused(7, 1)),

		refusal("a link to nothing", toMake("job", "j-9", "ops", "", "", "", "b-9", "", ""), refused(9, 3)),
		refusal("a link to what another kind has", toMake("job", "j-9", "ops", "", "", "", "j-1", "", ""), refused(9, 3)),
		refusal("a link to an Ending one", toMake("job", "j-9", "ops", "", "", "", "b-3", "", ""), refused(9, 3)),
		refusal("a link to itself", toMake("job", "j-9", "ops", "", "", "", "", "j-9", ""), refused(9, 4)),
		refusal("a leaning link to itself", toMake("job", "j-9", "ops", "", "", "", "", "", "j-9"), refused(9, 5)),
		refusal("a leaning link to an Ending one", toMake("job", "j-9", "ops", "", "", "", "", "", "j-3"), refused(9, 5)),
		refusal("an owned link to nothing, of what must be set", toMake("tag", "t-9", "ops", "x", "j-9"), refused(9, 1)),
		refusal("the first of two links", toMake("job", "j-9", "ops", "", "", "", "b-1", "j-3", "j-9"), refused(9, 4)),
		refusal("the first of three links", toMake("job", "j-9", "ops", "", "", "", "b-9", "j-3", "j-9"), refused(9, 3)),

		through("e", refusal("no purses", toMake("job", "j-9", "yard", "1", "1", "", "", "", ""), refused(10, devJob))),
		through("d-2", refusal("no purse of the first ledger", toMake("job", "j-9", "dev", "1", "", "", "", "", ""), refused(10, devJob))),
		refusal("one too little in the second", toMake("job", "j-9", "dev", "13", "", "", "", "", ""), refused(10, devNeed)),
		refusal("one too little in the third", toMake("job", "j-9", "lab", "10", "6", "", "", "", ""), refused(10, labFuel)),
		refusal("one too little in the fourth", toMake("job", "j-9", "lab", "11", "5", "", "", "", ""), refused(10, labNeed)),
		refusal("one too little in the last", toMake("job", "j-9", "yard", "10", "3", "", "", "", ""), refused(10, yardFuel)),
		refusal("too little in three, the first is told", toMake("job", "j-9", "yard", "13", "6", "", "", "", ""), refused(10, devNeed)),
		refusal("no purse of the door of a ledger in which much is free", toMake("job", "j-9", "dev", "1", "", "", "", "", ""), refused(10, devNeed), emptied(myDevNeed), frees(devNeed, 12)),
		through("d-2", refusal("one too little of another door", toMake("berth", "b-9", "ops", "13", "", ""), refused(10, opsRoom))),
		refusal("what another door has", toMake("berth", "b-9", "ops", "1", "", ""), refused(10, opsRoom)),
		refusal("what is filled weighs", toMake("job", "j-9", "lab", "", "", "", "", "", ""), refused(10, labNeed), emptied(myLabNeed), frees(labNeed, 10)),
		refusal("what is mended weighs", toMake("job", "j-9", "lab", "1", "", "big", "", "", ""), refused(10, labNeed), purseOf(myLabNeed, 7)),
		refusal("what its kind weighs", toMake("job", "j-9", "lab", "1", "", "", "", "", ""), refused(10, devJob), emptied(myDevJob), frees(devJob, 1)),

		refusal("one object too many", toMake("note", "y", "ops"), refused(11, 0), objectsUpTo(impl.GateMaxObjects)),
		refusal("one version too many", toMake("note", "y", "ops"), refused(11, 0), atLast),
	})
}

func TestGatePassChange(t *testing.T) {
	checkPasses(t, []passCase{
		done("values", toChange("berth", "b-1", "20", "b", ""), turned(atB1, "20", "b", "")),
		done("one value", toChange("berth", "b-1", "16", "b", ""), turned(atB1, "16", "b", "")),
		done("the last object", toChange("tag", "t-1", "x", "j-2"), turned(atT1, "x", "j-2")),
		done("an object without fields", toChange("note", "n-1"), turned(atN1)),
		done("the version that was seen", seen(1, toChange("berth", "b-1", "20", "b", "")), turned(atB1, "20", "b", "")),
		done("the version of Now, seen", seen(20, toChange("job", "j-2", "3", "3", "small", "", "", "")), turned(atJ2, "3", "3", "small", "", "", "")),
		done("Holds stay", toChange("job", "j-1", "", "1", "big", "", "", ""), turned(atJ1, "8", "1", "big", "", "", "")),
		done("the last version that there may be", toChange("note", "n-1"), turned(atN1)).with(oneLeft),
		done("among all objects that there may be", toChange("berth", "b-1", "20", "b", ""), turned(atB1, "20", "b", "")).with(objectsUpTo(impl.GateMaxObjects)),

		done("filled by a default", toChange("berth", "b-1", "1", "", ""), turned(atB1, "1", "a", "")),
		done("mended", toChange("berth", "b-1", "", "b", "3"), turned(atB1, "3", "b", "3")),
		done("mended to what it was", toChange("berth", "b-2", "5", "b", "8"), turned(atB2, "8", "b", "8")),
		done("what is fixed, as it was", toChange("job", "j-1", "1", "2", "big", "b-1", "", ""), turned(atJ1, "8", "2", "big", "b-1", "", ""), pays(myLabFuel, 1)),
		done("what is fixed, not set before", toChange("job", "j-2", "3", "3", "small", "b-3", "j-1", "j-1"), turned(atJ2, "3", "3", "small", "b-3", "j-1", "j-1")).with(was(atJ2, func(o *impl.GateObject) { o.Values[2] = "" })),
		done("what is fixed, mended to what it was", toChange("job", "j-1", "8", "9", "small", "b-1", "", ""), turned(atJ1, "8", "9", "big", "b-1", "", ""), func(b book) { b.Purses[myLabFuel].Amount = 2 }).with(purseOf(myLabFuel, 10)),
		done("what is fixed, not set before, mended", toChange("job", "j-4", "1", "9", "", "", "", ""), turned(atJ3+1, "8", "9", "big", "", "", "")).with(func(b book) {
			b.Objects = slices.Insert(b.Objects, atJ3+1, object(5, "job", "j-4", "ops", "1", "", "", "", "", ""))
		}),

		done("a link set to what it was, which is Ending", toChange("job", "j-2", "3", "3", "small", "b-3", "j-2", ""), turned(atJ2, "3", "3", "small", "b-3", "j-2", "")),
		done("a link set to itself", toChange("job", "j-1", "8", "1", "big", "", "j-1", "j-1"), turned(atJ1, "8", "1", "big", "", "j-1", "j-1")),
		done("a link set to nothing", toChange("job", "j-2", "3", "3", "small", "", "", ""), turned(atJ2, "3", "3", "small", "", "", "")),
		done("a link set to something else", toChange("job", "j-2", "3", "3", "small", "b-2", "j-1", "j-1"), turned(atJ2, "3", "3", "small", "b-2", "j-1", "j-1")),
		done("a link that was not set", toChange("job", "j-1", "8", "1", "big", "b-2", "j-2", "j-2"), turned(atJ1, "8", "1", "big", "b-2", "j-2", "j-2")),

		done("the right of a team under it", asks("bob", toChange("job", "j-2", "3", "3", "small", "", "", "")), turned(atJ2, "3", "3", "small", "", "", "")),
		done("the right of a team, of another kind", asks("cy", toChange("tag", "t-1", "x", "j-2")), turned(atT1, "x", "j-2")),
	})
}

func TestGatePassChangeWeighs(t *testing.T) {
	j2 := func(need, fuel string) ask { return toChange("job", "j-2", need, fuel, "small", "b-3", "j-1", "j-1") }
	to := func(need, fuel string) func(b book) { return turned(atJ2, need, fuel, "small", "b-3", "j-1", "j-1") }
	checkPasses(t, []passCase{
		done("more of one", j2("8", "3"), to("8", "3"), pays(myDevNeed, 5), pays(myLabNeed, 5)),
		done("more of two", j2("4", "4"), to("4", "4"), pays(myDevNeed, 1), pays(myLabNeed, 1), pays(myLabFuel, 1), pays(myYardFuel, 1)),
		done("less of one", j2("1", "3"), to("1", "3"), frees(devNeed, 2), frees(labNeed, 2)),
		done("less of two", j2("1", "1"), to("1", "1"), frees(devNeed, 2), frees(labNeed, 2), frees(labFuel, 2), frees(yardFuel, 2)),
		done("less of what is not set any more", j2("3", ""), to("3", ""), frees(labFuel, 3), frees(yardFuel, 3)),
		done("less of what is filled in then", j2("", "3"), to("1", "3"), frees(devNeed, 2), frees(labNeed, 2)),
		done("more of one and less of another", j2("5", "1"), to("5", "1"), pays(myDevNeed, 2), pays(myLabNeed, 2), frees(labFuel, 2), frees(yardFuel, 2)),
		done("less of one and more of another", j2("1", "5"), to("1", "5"), frees(devNeed, 2), frees(labNeed, 2), pays(myLabFuel, 2), emptied(myYardFuel)),
		done("just as much as a purse has", j2("13", "3"), to("13", "3"), pays(myDevNeed, 10), emptied(myLabNeed)),
		done("just as much as two purses have", j2("13", "5"), to("13", "5"), pays(myDevNeed, 10), pays(myLabFuel, 2), emptied(myLabNeed, myYardFuel)),
		done("all that all purses of it have", j2("15", "3"), to("15", "3"), emptied(myDevNeed, myLabNeed)).with(purseOf(myLabNeed, 12)),
		through("e", done("less, without purses", j2("1", "1"), to("1", "1"), frees(devNeed, 2), frees(labNeed, 2), frees(labFuel, 2), frees(yardFuel, 2))),
		through("e", done("as much, without purses", j2("3", "3"), to("3", "3"))),
		through("e", done("without ledgers", j2("32", "8"), to("32", "8")).with(noLedgers)),
		done("less, where nothing is drawn", j2("2", "3"), to("2", "3"), frees(devNeed, 1), frees(labNeed, 1)).with(noPurses),
		done("how long a purse lasts stays", j2("4", "3"), to("4", "3"), pays(myDevNeed, 1), pays(myLabNeed, 1)).with(func(b book) { b.Purses[myDevNeed].Until = 5 }),

		refusal("one more than the purse of one", j2("14", "3"), refused(10, labNeed)),
		refusal("one more than the purses of two", j2("16", "3"), refused(10, devNeed)),
		refusal("one more than the purse of the last", j2("3", "6"), refused(10, yardFuel)),
		refusal("one more than the purse of the one ahead of the last", j2("3", "6"), refused(10, labFuel), purseOf(myLabFuel, 2)),
		refusal("less of one, and too much of another", j2("1", "6"), refused(10, yardFuel)),
		refusal("too much of one, and less of another", j2("14", "1"), refused(10, labNeed)),
		refusal("one more, without a purse", j2("4", "3"), refused(10, devNeed), noPurses),
		through("e", refusal("one more, through a door without a purse", j2("4", "3"), refused(10, devNeed))),
		through("d-2", refusal("one more, the door has a purse of the first ledger alone", j2("4", "3"), refused(10, labNeed))),
		through("d-2", refusal("one more, the door has a purse of another ledger alone", j2("3", "4"), refused(10, yardFuel))),
		through("d-10", refusal("a door whose name lies between", j2("4", "3"), refused(10, devNeed))),
	})
}

func TestGatePassChangeRefused(t *testing.T) {
	b1 := func(values ...string) ask { return toChange("berth", "b-1", values...) }
	j1 := func(values ...string) ask { return toChange("job", "j-1", values...) }
	j2 := func(values ...string) ask { return toChange("job", "j-2", values...) }
	checkPasses(t, []passCase{
		refusal("it is not there", toChange("berth", "b-9", "1", "", ""), refused(3, 0)),
		refusal("it is not there, another kind has it", toChange("note", "b-1"), refused(3, 0)),
		refusal("a name that begins its name", toChange("berth", "b", "1", "", ""), refused(3, 0)),
		refusal("a name behind all", toChange("tag", "z", "x", "j-1"), refused(3, 0)),
		refusal("a book without objects", toChange("note", "n-1"), refused(3, 0), func(b book) { b.Objects = nil; noLedgers(b) }),

		refusal("no grants", asks("eve", b1("1", "", "")), refused(4, 0)),
		refusal("not the verb", asks("dan", b1("1", "", "")), refused(4, 0)),
		refusal("not the object's team", asks("cy", b1("1", "", "")), refused(4, 0)),
		refusal("not the name", asks("bob", toChange("tag", "t-1", "x", "j-2")), refused(4, 0)),
		refusal("not the kind", asks("dan", toChange("note", "n-1")), refused(4, 0), func(b book) { b.Grants[4].Rule = ofKind("berth", rule("", 2)) }),

		refusal("another version, behind it", seen(2, b1("1", "", "")), impl.GateSaid{Code: 5, Version: 1}),
		refusal("another version, ahead of it", seen(19, j2("3", "", "", "", "", "")), impl.GateSaid{Code: 5, Version: 20}),
		refusal("another version, that of Now", seen(20, j1("3", "", "", "", "", "")), impl.GateSaid{Code: 5, Version: 4}),
		refusal("another version, the greatest", seen(math.MaxInt, b1("1", "", "")), impl.GateSaid{Code: 5, Version: 1}),

		refusal("it is Ending", toChange("berth", "b-3", "4", "a", ""), refused(6, 0)),
		refusal("it is Ending, the version that was seen", seen(3, toChange("berth", "b-3", "4", "a", "")), refused(6, 0)),

		refusal("not set any more", b1("", "a", ""), refused(7, 0)),
		refusal("it does not fit", b1("16", "c", ""), refused(7, 1)),
		refusal("it does not fit, the last", b1("16", "a", "100"), refused(7, 0)),
		refusal("what is mended does not fit", b1("16", "a", "65"), refused(7, 0)),
		refusal("the first of two", j2("33", "x", "small", "", "", ""), refused(7, 0)),
		refusal("a link that is not set any more, and must be", toChange("tag", "t-1", "x", ""), refused(7, 1)),
		refusal("a link that is no name", j2("3", "3", "small", "b 1", "j-1", "j-1"), refused(7, 3)),

		refusal("fixed", j2("3", "3", "big", "b-3", "j-1", "j-1"), refused(8, 2)),
		refusal("fixed, and not set any more", j2("3", "3", "", "b-3", "j-1", "j-1"), refused(8, 2)),
		refusal("fixed, the first field", toChange("tag", "t-1", "y", "j-1"), refused(8, 0)),
		refusal("fixed, turned by a mend", j2("3", "9", "small", "b-3", "j-1", "j-1"), refused(8, 2)),

		refusal("a link to nothing", j2("3", "3", "small", "b-9", "j-1", "j-1"), refused(9, 3)),
		refusal("a link to an Ending one", j1("8", "1", "big", "b-3", "", ""), refused(9, 3)),
		refusal("a link to another Ending one", j2("3", "3", "small", "b-3", "j-3", "j-1"), refused(9, 4)),
		refusal("a leaning link to an Ending one", j2("3", "3", "small", "b-3", "j-1", "j-3"), refused(9, 5)),
		refusal("a link to what was another field's, Ending", j2("3", "3", "small", "b-1", "j-1", "j-3"), refused(9, 5), was(atJ2, func(o *impl.GateObject) { o.Values[4] = "j-3" })),
		refusal("the first of two", j2("3", "3", "small", "b-3", "j-8", "j-9"), refused(9, 4)),
		refusal("of a tag, to nothing", toChange("tag", "t-1", "x", "j-9"), refused(9, 1)),

		refusal("one version too many", b1("1", "a", ""), refused(11, 0), atLast),
		refusal("one version too many, nothing changes", b1("16", "a", ""), refused(11, 0), atLast),
	})
}

func TestGatePassEnd(t *testing.T) {
	checkPasses(t, []passCase{
		done("it is Ending", toEnd("berth", "b-1"), ended(atB1)),
		done("with Holds", toEnd("job", "j-1"), ended(atJ1)),
		done("the version that was seen", seen(20, toEnd("job", "j-2")), ended(atJ2)),
		done("what others are owned by stays, and so do they", toEnd("job", "j-1"), ended(atJ1)),
		done("the last object", toEnd("tag", "t-1"), ended(atT1)),
		done("the right of a team", asks("bob", toEnd("job", "j-1")), ended(atJ1)),
		done("the right of a kind, by another grant", asks("cy", toEnd("job", "j-2")), ended(atJ2)),
		through("e", done("a door without purses", toEnd("job", "j-1"), ended(atJ1))),
		done("the last version that there may be", toEnd("berth", "b-1"), ended(atB1)).with(oneLeft),
		done("among as many of all as there may be", toEnd("note", "n-1"), func(b book) {
			ended(slices.IndexFunc(b.Objects, func(o impl.GateObject) bool { return o.Name == "n-1" }))(b)
		}).with(objectsUpTo(impl.GateMaxObjects), grantsUpTo(impl.GateMaxGrants)),

		refusal("it is not there", toEnd("berth", "b-9"), refused(3, 0)),
		refusal("another kind has it", toEnd("note", "b-1"), refused(3, 0)),
		refusal("no grants", asks("eve", toEnd("berth", "b-1")), refused(4, 0)),
		refusal("not the verb", asks("dan", toEnd("berth", "b-1")), refused(4, 0)),
		refusal("not the team", asks("bob", toEnd("job", "j-4")), refused(4, 0), func(b book) {
			b.Objects = slices.Insert(b.Objects, atJ3+1, object(5, "job", "j-4", "dev", "1", "", "", "", "", ""))
			was(0, func(*impl.GateObject) {})(b)
		}),
		refusal("not the kind", asks("cy", toEnd("tag", "t-1")), refused(4, 0)),
		refusal("not the name", asks("bob", toEnd("tag", "t-1")), refused(4, 0)),
		refusal("another version", seen(2, toEnd("berth", "b-1")), impl.GateSaid{Code: 5, Version: 1}),
		refusal("another version, of an Ending one", seen(2, toEnd("berth", "b-3")), impl.GateSaid{Code: 5, Version: 3}),
		refusal("it is Ending", toEnd("berth", "b-3"), refused(6, 0)),
		refusal("it is Ending, with Holds, the version that was seen", seen(6, toEnd("job", "j-3")), refused(6, 0)),
		refusal("one version too many", toEnd("berth", "b-1"), refused(11, 0), atLast),
	})
}

func TestGatePassLetGo(t *testing.T) {
	checkPasses(t, []passCase{
		done("the first of three", toLetGo("job", "j-1", "clean"), letGo(atJ1, "count", "lock")),
		done("the second of three", toLetGo("job", "j-1", "count"), letGo(atJ1, "clean", "lock")),
		done("the last of three", toLetGo("job", "j-1", "lock"), letGo(atJ1, "clean", "count")),
		done("the only one, of an Ending one", toLetGo("job", "j-3", "clean"), letGo(atJ3)),
		through("e", done("a door without purses", toLetGo("job", "j-1", "lock"), letGo(atJ1, "clean", "count"))),
		done("the last version that there may be", toLetGo("job", "j-3", "clean"), letGo(atJ3)).with(oneLeft),
		done("the right of a kind", asks("dan", toLetGo("berth", "b-3", "h")), letGo(atB3)).with(func(b book) { b.Objects[atB3].Holds = texts{"h"} }),

		refusal("it is not there", toLetGo("job", "j-9", "clean"), refused(3, 0)),
		refusal("another kind has it", toLetGo("note", "j-1", "clean"), refused(3, 0)),
		refusal("no grants", asks("eve", toLetGo("job", "j-1", "clean")), refused(4, 0)),
		refusal("not the verb", asks("bob", toLetGo("job", "j-1", "clean")), refused(4, 0)),
		refusal("not the kind", asks("dan", toLetGo("job", "j-1", "clean")), refused(4, 0)),
		refusal("not the object's team", asks("dan", toLetGo("job", "j-1", "clean")), refused(4, 0), func(b book) { b.Grants[4].Rule = ofTeam("yard", rule("", 4)) }),
		refusal("not the name", asks("dan", toLetGo("job", "j-1", "clean")), refused(4, 0), func(b book) { b.Grants[4].Rule = rule("j-2", 4) }),
		refusal("no holds", toLetGo("job", "j-2", "clean"), refused(11, 0)),
		refusal("no such hold", toLetGo("job", "j-1", "clea"), refused(11, 0)),
		refusal("a hold of another one", toLetGo("job", "j-3", "count"), refused(11, 0)),
		refusal("one version too many", toLetGo("job", "j-1", "clean"), refused(11, 0), atLast),
	})
}

func TestGatePassGive(t *testing.T) {
	of := func(who string, rules ...impl.GateRule) func(b book) {
		return func(b book) {
			for _, r := range rules {
				b.Given++
				b.Grants = append(b.Grants, impl.GateGrant{Number: b.Given, To: who, By: "ann", Rule: r})
			}
		}
	}
	lab := func(verbs ...int) impl.GateRule { return ofTeam("lab", rule("j", verbs...)) }
	gives := func(what string, r impl.GateRule, rules ...impl.GateRule) passCase {
		return done(what, asks("eve", toGive("fay", r)), given("fay", "eve", r)).with(of("eve", rules...))
	}
	givesNot := func(what string, r impl.GateRule, rules ...impl.GateRule) passCase {
		return refusal(what, asks("eve", toGive("fay", r)), refused(4, 0), of("eve", rules...))
	}
	checkPasses(t, []passCase{
		done("all of it", toGive("bob", rule("", 1, 2, 3, 4, 5)), given("bob", "ann", rule("", 1, 2, 3, 4, 5))),
		done("a part of it", toGive("bob", ofKind("job", lab(2))), given("bob", "ann", ofKind("job", lab(2)))),
		done("to oneself", toGive("ann", rule("", 1)), given("ann", "ann", rule("", 1))),
		done("what is there already", toGive("bob", ofTeam("lab", rule("j", 1, 2, 3))), given("bob", "ann", ofTeam("lab", rule("j", 1, 2, 3)))),
		done("a kind and a team that are not there", toGive("bob", ofKind("ghost", ofTeam("ghost", rule("", 1)))), given("bob", "ann", ofKind("ghost", ofTeam("ghost", rule("", 1))))),
		done("to a name of all its bytes", toGive(letters(impl.GateMaxName), rule("", 1)), given(letters(impl.GateMaxName), "ann", rule("", 1))),
		through("e", done("a door without purses", toGive("bob", rule("", 1)), given("bob", "ann", rule("", 1)))),
		done("the last grant that there may be", toGive("bob", rule("", 1)), given("bob", "ann", rule("", 1))).with(grantsUpTo(impl.GateMaxGrants - 1)),
		done("the last version that there may be", toGive("bob", rule("", 1)), given("bob", "ann", rule("", 1))).with(oneLeft),
		gives("just what one has, GateGive in it", lab(1, 5), lab(1, 5)),
		gives("what one has, without GateGive", lab(1), lab(1, 5)),
		gives("GateGive alone", lab(5), lab(5)),
		gives("rules that cover only together", lab(1, 3), lab(1), lab(3, 4), lab(5)),
		gives("rules that cover only together, of several widths", ofKind("job", ofTeam("yard", rule("j-1", 1, 3))), ofKind("job", rule("", 1)), ofTeam("dev", rule("j", 3)), rule("j-", 2, 5)),
		gives("a team under it", ofTeam("yard", rule("j", 1)), lab(1, 5)),
		gives("a longer prefix", ofTeam("lab", rule("j-1", 1)), lab(1, 5)),
		gives("a kind of it", ofKind("job", lab(1)), lab(1, 5)),

		refusal("no grants", asks("eve", toGive("fay", rule("", 1))), refused(4, 0)),
		refusal("no right to give", asks("bob", toGive("fay", lab(1))), refused(4, 0)),
		refusal("the grants of who gets it", asks("eve", toGive("ann", rule("", 1))), refused(4, 0)),
		givesNot("all but GateGive", lab(1), lab(1, 2, 3, 4)),
		givesNot("GateGive alone", lab(1), lab(5)),
		givesNot("all but GateGive, which is asked for", lab(1, 5), lab(1, 2, 3, 4)),
		givesNot("one verb is not there", lab(1, 2), lab(1, 5)),
		givesNot("GateGive for another team", lab(1), lab(1), ofTeam("ops", rule("j", 5))),
		givesNot("GateGive for a team under it", lab(1), lab(1), ofTeam("yard", rule("j", 5))),
		givesNot("GateGive for another prefix", lab(1), lab(1), ofTeam("lab", rule("j-", 5))),
		givesNot("GateGive for one kind", lab(1), lab(1), ofKind("job", lab(5))),
		givesNot("the team over it", ofTeam("dev", rule("j", 1)), lab(1, 5)),
		givesNot("no team", rule("j", 1), lab(1, 5)),
		givesNot("a shorter prefix", ofTeam("lab", rule("", 1)), lab(1, 5)),
		givesNot("teams that are all there are", rule("", 1), ofTeam("dev", rule("", 1, 5)), ofTeam("ops", rule("", 1, 5))),
		givesNot("kinds that are all there are", rule("", 1), ofKind("berth", rule("", 1, 5)), ofKind("job", rule("", 1, 5)), ofKind("note", rule("", 1, 5)), ofKind("tag", rule("", 1, 5))),
		refusal("one grant too many", toGive("bob", rule("", 1)), refused(11, 0), grantsUpTo(impl.GateMaxGrants)),
		refusal("one version too many", toGive("bob", rule("", 1)), refused(11, 0), atLast),
	})
}

func TestGatePassTake(t *testing.T) {
	of := func(who, by string, r impl.GateRule) func(b book) {
		return func(b book) {
			b.Given++
			b.Grants = append(b.Grants, impl.GateGrant{Number: b.Given, To: who, By: by, Rule: r})
		}
	}
	checkPasses(t, []passCase{
		done("one that is By Who", asks("bob", toTake(6)), taken(6)),
		done("one that is By Who, To Who", asks("dan", toTake(9)), taken(9)),
		done("one that is covered", toTake(6), taken(6)),
		done("the first one, by who has it", toTake(1), taken(1)),
		done("a first one, covered", asks("bob", toTake(10)), taken(10)).with(of("eve", "", ofTeam("lab", rule("j-1", 1))), of("bob", "ann", ofTeam("lab", rule("j", 5)))),
		done("covered by the grant itself", asks("cy", toTake(6)), taken(6)),
		done("covered by several", asks("eve", toTake(4)), taken(4)).with(of("eve", "ann", ofTeam("lab", rule("", 1, 5))), of("eve", "ann", ofTeam("dev", rule("", 2)))),
		through("e", done("a door without purses", toTake(9), taken(9))),
		done("the last version that there may be", toTake(3), taken(3)).with(oneLeft),
		done("one of all grants that there may be", toTake(3), taken(3)).with(grantsUpTo(impl.GateMaxGrants)),
		done("the only one", toTake(1), taken(1)).with(func(b book) { b.Grants = b.Grants[:1] }),

		refusal("a number between", toTake(2), refused(3, 0)),
		refusal("a number behind all", toTake(10), refused(3, 0)),
		refusal("the greatest number", toTake(math.MaxInt), refused(3, 0)),
		refusal("a book without grants", toTake(1), refused(3, 0), func(b book) { b.Grants = nil }),
		refusal("somebody without grants", asks("eve", toTake(6)), refused(4, 0)),
		refusal("who has it, without GateGive", asks("bob", toTake(3)), refused(4, 0)),
		refusal("a first one, by who has it, without GateGive", asks("eve", toTake(10)), refused(4, 0), of("eve", "", rule("", 1, 2, 3, 4))),
		refusal("what covers all but GateGive", asks("eve", toTake(4)), refused(4, 0), of("eve", "ann", rule("", 1, 2, 3, 4))),
		refusal("GateGive alone", asks("eve", toTake(4)), refused(4, 0), of("eve", "ann", rule("", 5))),
		refusal("what covers but one verb", asks("eve", toTake(4)), refused(4, 0), of("eve", "ann", rule("", 1, 5))),
		refusal("GateGive for a part", asks("eve", toTake(4)), refused(4, 0), of("eve", "ann", rule("", 1, 2)), of("eve", "ann", ofTeam("yard", rule("", 5)))),
		refusal("who is given by it", asks("cy", toTake(4)), refused(4, 0)),
		refusal("one version too many", toTake(3), refused(11, 0), atLast),
		refusal("one version too many, one that is By Who", asks("bob", toTake(6)), refused(11, 0), atLast),
	})
}

// A right that was given is one, and one that was taken is none.
func TestGatePassGiveAndTake(t *testing.T) {
	l := pierLaw()
	end := asks("fay", toEnd("job", "j-1"))
	b, _ := impl.GatePass(l, pierBook(), "d-1", toGive("fay", rule("j-1", 3)))
	ending, said := impl.GatePass(l, b, "d-1", end)
	if said != (impl.GateSaid{Version: 22}) || !ending.Objects[atJ1].Ending {
		t.Error("given, and not allowed:", said)
	}
	b, _ = impl.GatePass(l, b, "d-1", toTake(21))
	if _, said := impl.GatePass(l, b, "d-1", end); said != refused(4, 0) {
		t.Error("taken, and allowed:", said)
	}
	want := pierBook()
	want.Now, want.Given = 22, 22
	if !same(b, want) {
		t.Errorf("given and taken: %+v", b)
	}
}

func TestGatePassOfWhatIsNotOk(t *testing.T) {
	for _, c := range okAsks() {
		for what, l := range badLaws() {
			b := impl.GateBook{Now: 1, Given: 1, Grants: pierBook().Grants[:1]}
			if got, said := impl.GatePass(l, b, "d-1", c.ask); said != refused(1, 0) || !same(got, impl.GateBook{}) {
				t.Errorf("%s: %+v, %+v", what, said, got)
			}
		}
		for what, b := range badBooks() {
			for _, door := range []string{"d-1", ""} {
				for _, a := range []ask{c.ask, {}} {
					if got, said := impl.GatePass(pierLaw(), b, door, a); said != refused(1, 0) || !same(got, impl.GateBook{}) {
						t.Errorf("%s: %+v, %+v", what, said, got)
					}
				}
			}
		}
		for _, door := range wrongNames {
			checkPass(t, through(door, refusal("door "+strconv.Quote(door), c.ask, refused(1, 0))))
		}
		for _, part := range askParts() {
			edits := part.something
			if slices.Contains(c.uses, part.name) {
				edits = part.bad
			}
			for _, edit := range edits {
				a := spread(c.ask)
				edit(&a)
				checkPass(t, refusal("a bad "+part.name, a, refused(2, 0)))
			}
		}
		checkPass(t, refusal("a bad Who", asks("Ann", c.ask), refused(2, 0)))
	}
	checkPass(t, refusal("no ask", ask{}, refused(2, 0)))
	checkPass(t, refusal("a verb that there is not", ask{Who: "ann", Verb: 7}, refused(2, 0)))
}

// hurdle is one thing that is in the way of an ask, and what is told of it where nothing ahead of it is.
type hurdle struct {
	said impl.GateSaid
	put  func(b book, a *ask, door *string)
}

func noSuchDoor() hurdle {
	return hurdle{refused(1, 0), func(b book, a *ask, door *string) { *door = "D" }}
}

func notOkAsk() hurdle {
	return hurdle{refused(2, 0), func(b book, a *ask, door *string) { a.Number-- }}
}

func named(name string) hurdle {
	return hurdle{refused(3, 0), func(b book, a *ask, door *string) { a.Name = name }}
}

func byNobody() hurdle {
	return hurdle{refused(4, 0), func(b book, a *ask, door *string) { a.Who = "eve" }}
}

func valued(code, place int, value string) hurdle {
	return hurdle{refused(code, place), func(b book, a *ask, door *string) { a.Values[place] = value }}
}

func tooDear(place int) hurdle {
	return hurdle{refused(10, place), func(b book, a *ask, door *string) { *door += "-0" }}
}

func inTheBook(said impl.GateSaid, edit func(b book)) hurdle {
	return hurdle{said, func(b book, a *ask, door *string) { edit(b) }}
}

// hurdled is an ask that can be done, and what may be put in its way, in the order of the codes.
type hurdled struct {
	what    string
	ask     ask
	hurdles []hurdle
}

func hurdledAsks() []hurdled {
	noVersions := inTheBook(refused(11, 0), atLast)
	alreadyEnding := func(place int) hurdle {
		return inTheBook(refused(6, 0), func(b book) { b.Objects[place].Ending = true })
	}
	seenOther := func(version int) hurdle {
		return hurdle{impl.GateSaid{Code: 5, Version: version}, func(b book, a *ask, door *string) { a.Seen = version + 1 }}
	}
	return []hurdled{
		{"GateMake", toMake("job", "j-9", "lab", "", "", "small", "", "", ""), []hurdle{
			noSuchDoor(), notOkAsk(), named("j-1"), byNobody(), valued(7, 1, "x"), valued(9, 4, "j-3"), tooDear(devJob),
			inTheBook(refused(11, 0), objectsUpTo(impl.GateMaxObjects)), noVersions,
		}},
		{"GateChange", toChange("job", "j-2", "4", "3", "small", "b-3", "j-1", "j-1"), []hurdle{
			noSuchDoor(), notOkAsk(), named("j-9"), byNobody(), seenOther(20), alreadyEnding(atJ2), valued(7, 1, "x"), valued(8, 2, "big"), valued(9, 4, "j-3"), tooDear(devNeed), noVersions,
		}},
		{"GateEnd", toEnd("job", "j-1"), []hurdle{
			noSuchDoor(), notOkAsk(), named("j-9"), byNobody(), seenOther(4), alreadyEnding(atJ1), noVersions,
		}},
		{"GateLetGo", toLetGo("job", "j-1", "clean"), []hurdle{
			noSuchDoor(), notOkAsk(), named("j-9"), byNobody(),
			inTheBook(refused(11, 0), func(b book) { b.Objects[atJ1].Holds = nil }), noVersions,
		}},
		{"GateGive", toGive("bob", rule("", 1)), []hurdle{
			noSuchDoor(), {refused(2, 0), func(b book, a *ask, door *string) { a.Team = "dev" }}, byNobody(),
			inTheBook(refused(11, 0), grantsUpTo(impl.GateMaxGrants)), noVersions,
		}},
		{"GateTake", toTake(4), []hurdle{
			noSuchDoor(), {refused(2, 0), func(b book, a *ask, door *string) { a.Team = "dev" }},
			inTheBook(refused(3, 0), func(b book) { b.Grants = slices.Delete(b.Grants, 2, 3) }), byNobody(), noVersions,
		}},
	}
}

// put is a case with some hurdles in its way, the bits of a set; what is told is the first of those that are looked for.
func (h hurdled) put(set int, lookedFor func(said impl.GateSaid) bool) passCase {
	b, a, door := pierBook(), spread(h.ask), "d-1"
	said := impl.GateSaid{}
	for i, hurdle := range h.hurdles {
		if set>>i&1 == 0 {
			continue
		}
		hurdle.put(&b, &a, &door)
		if said.Code == 0 && lookedFor(hurdle.said) {
			said = hurdle.said
		}
	}
	return passCase{what: h.what + " " + strconv.Itoa(set), door: door, ask: a, said: said, edit: func(to book) { *to = b }}
}

// Of all hurdles that are in the way together, in all ways to put some of them there, the first one by its code is told.
func TestGatePassOrderOfCodes(t *testing.T) {
	t.Parallel()
	for _, h := range hurdledAsks() {
		for set := 1; set < 1<<len(h.hurdles); set++ {
			checkPass(t, h.put(set, func(impl.GateSaid) bool { return true }))
		}
	}
}
