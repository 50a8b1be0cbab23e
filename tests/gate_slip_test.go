package tests

import (
	"math"
	"slices"
	"strconv"
	"testing"

	"loop.example/wharfdesk/impl"
)

type (
	slip = impl.GateSlip
	want = impl.GateWant
)

func on(kind, name string, version int) want {
	return want{Kind: kind, Name: name, Version: version}
}

// slipCase says which slip is made of pierBook, turned by edit ahead of it.
type slipCase struct {
	what  string
	door  string
	ask   ask
	edit  func(b book)
	said  impl.GateSaid
	wants []want
}

// relies is a case through the door d-1 that makes a slip.
func relies(what string, a ask, wants ...want) slipCase {
	return slipCase{what: what, door: "d-1", ask: a, wants: wants}
}

// noSlip is a case through the door d-1 that makes none.
func noSlip(what string, a ask, said impl.GateSaid, edits ...func(b book)) slipCase {
	return slipCase{what: what, door: "d-1", ask: a, said: said, edit: each(edits...)}
}

func (c slipCase) through(door string) slipCase {
	c.door = door
	return c
}

func (c slipCase) with(edits ...func(b book)) slipCase {
	c.edit = each(edits...)
	return c
}

func checkSlips(t *testing.T, list []slipCase) {
	t.Helper()
	for _, c := range list {
		checkSlip(t, c)
	}
}

func checkSlip(t *testing.T, c slipCase) {
	t.Helper()
	view := pierBook()
	if c.edit != nil {
		c.edit(&view)
	}
	if !impl.GateBookOk(pierLaw(), view) {
		t.Errorf("%s: the view was not ok", c.what)
	}
	expected := slip{}
	if c.said.Code == 0 {
		expected = slip{Door: c.door, Ask: c.ask, Given: view.Given, Wants: c.wants}
	}
	l, view, a := spread(pierLaw()), spread(view), spread(c.ask)
	lawAhead, viewAhead, askAhead := whole(l), whole(view), whole(a)
	got, said := impl.GateSlipOf(l, view, c.door, a)
	if said != c.said || !same(got, expected) {
		t.Errorf("%s: %+v and %+v, not %+v and %+v", c.what, said, got, c.said, expected)
	}
	if !same(whole(l), lawAhead) || !same(whole(view), viewAhead) || !same(whole(a), askAhead) {
		t.Errorf("%s: an argument is changed", c.what)
	}
	newMemory(t, c.what, got, l, view, a)
	if ok := impl.GateSlipOk(l, got); ok != (said.Code == 0) {
		t.Errorf("%s: the slip is ok: %v", c.what, ok)
	}
}

// checkSlipsBeside says of a case of an ask that the slip out of the book is what the document says, and that a slip that relies on no object is answered as the ask.
func checkSlipsBeside(t *testing.T, c passCase, l impl.GateLaw, b impl.GateBook, a ask) {
	t.Helper()
	got, said := impl.GateSlipOf(l, b, c.door, a)
	if expected, expectedSaid := slipped(l, b, c.door, a); said != expectedSaid || !same(got, expected) {
		t.Errorf("%s: the slip: %+v and %+v, not %+v and %+v", c.what, said, got, expectedSaid, expected)
	}
	if c.said.Code != 10 && (said.Code != c.said.Code || said.Place != c.said.Place || c.said.Code != 0 && said != c.said) {
		t.Errorf("%s: the slip: %+v, not as of the ask, %+v", c.what, said, c.said)
	}
	expected, expectedSaid := impl.GatePass(l, b, c.door, a)
	if c.said.Code == 1 {
		expectedSaid = refused(2, 0)
	}
	made := spread(slip{Door: c.door, Ask: a, Given: b.Given})
	book, said := impl.GateCommit(l, b, made)
	if said != expectedSaid || !same(book, expected) {
		t.Errorf("%s: committed: %+v and %+v, not %+v and %+v", c.what, said, book, expectedSaid, expected)
	}
	newMemory(t, c.what, book, l, b, made)
}

// What pierBook has, as a slip relies on it.
var (
	onB1 = on("berth", "b-1", 1)
	onB2 = on("berth", "b-2", 2)
	onB3 = on("berth", "b-3", 3)
	onJ1 = on("job", "j-1", 4)
	onJ2 = on("job", "j-2", 20)
	onJ3 = on("job", "j-3", 6)
	onJ9 = on("job", "j-9", 0)
	onN1 = on("note", "n-1", 8)
	onT1 = on("tag", "t-1", 7)
)

func TestGateSlipOfMake(t *testing.T) {
	job := func(links ...string) ask {
		return toMake("job", "j-9", "lab", slices.Concat(texts{"5", "2", "small"}, links)...)
	}
	checkSlips(t, []slipCase{
		relies("no fields", toMake("note", "n-2", "dev"), on("note", "n-2", 0)),
		relies("no links", toMake("berth", "b-9", "dev", "1", "", ""), on("berth", "b-9", 0)),
		relies("links that are nothing", job("", "", ""), onJ9),
		relies("a link that holds", job("b-1", "", ""), onJ9, onB1),
		relies("a link that owns", job("", "j-1", ""), onJ9, onJ1),
		relies("a link that leans", job("", "", "j-1"), onJ9, onJ1),
		relies("all links, field by field", job("b-2", "j-2", "j-1"), onJ9, onB2, onJ2, onJ1),
		relies("all links, the other way round", job("b-1", "j-1", "j-2"), onJ9, onB1, onJ1, onJ2),
		relies("a name that two links name", job("", "j-2", "j-2"), onJ9, onJ2, onJ2),
		relies("a name that two links name, and another one", job("b-1", "j-1", "j-1"), onJ9, onB1, onJ1, onJ1),
		relies("a link that must be set", toMake("tag", "t-2", "ops", "y", "j-1"), on("tag", "t-2", 0), onJ1),
		relies("a name that another kind has", toMake("job", "b-1", "lab", "", "", "", "b-1", "", ""), on("job", "b-1", 0), onB1),
		relies("a text that names an object", toMake("tag", "t-2", "ops", "j-1", "j-2"), on("tag", "t-2", 0), onJ2),
		relies("Holds", holding(toMake("note", "n-2", "dev"), "a", "b-1", "j-1"), on("note", "n-2", 0)),
		relies("what is filled in stays as it was asked", toMake("job", "j-9", "lab", "", "", "", "b-1", "", ""), onJ9, onB1),
		relies("what is mended stays as it was asked", toMake("job", "j-9", "ops", "3", "9", "small", "", "j-1", ""), onJ9, onJ1),
		relies("what fits only when it is mended", toMake("berth", "b-9", "dev", "x", "b", "64"), on("berth", "b-9", 0)),
		relies("by somebody else", asks("bob", toMake("note", "j-9", "lab")), on("note", "j-9", 0)),
		relies("a Name of all its bytes", toMake("note", letters(impl.GateMaxName), "ops"), on("note", letters(impl.GateMaxName), 0)),
		relies("through a door of all its bytes", job("b-1", "", ""), onJ9, onB1).through(letters(impl.GateMaxName)),
		relies("the first object", toMake("note", "n", "ops"), on("note", "n", 0)).with(func(b book) { b.Objects = nil; noLedgers(b) }),
		relies("the last object that there may be", toMake("note", "y", "ops"), on("note", "y", 0)).with(objectsUpTo(impl.GateMaxObjects - 1)),
		relies("the last version that there may be", job("b-1", "", ""), onJ9, onB1).with(oneLeft),
		relies("another Given", job("b-1", "", ""), onJ9, onB1).with(grantsUpTo(impl.GateMaxGrants)),
		relies("another version", job("b-1", "j-1", ""), onJ9, on("berth", "b-1", 19), onJ1).with(func(b book) { b.Objects[atB1].Version = 19 }),
		relies("what links to an Ending one itself", job("b-1", "j-2", ""), onJ9, onB1, onJ2),

		relies("a door without purses", job("b-1", "", ""), onJ9, onB1).through("e"),
		relies("no purses", job("b-1", "", ""), onJ9, onB1).with(noPurses),
		relies("no ledgers", job("b-1", "", ""), onJ9, onB1).with(noLedgers),
		relies("one more than the purse has", toMake("job", "j-9", "dev", "13", "", "", "", "", ""), onJ9),
		relies("more than the ledger bounds", toMake("berth", "b-9", "ops", "64", "", ""), on("berth", "b-9", 0)),
		relies("more than any purse could have", toMake("job", "j-9", "yard", "32", "9", "", "b-2", "", ""), onJ9, onB2),
	})
}

func TestGateSlipOfChange(t *testing.T) {
	j1 := func(links ...string) ask {
		return toChange("job", "j-1", slices.Concat(texts{"8", "1", "big"}, links)...)
	}
	j2 := func(links ...string) ask {
		return toChange("job", "j-2", slices.Concat(texts{"3", "3", "small"}, links)...)
	}
	checkSlips(t, []slipCase{
		relies("no fields", toChange("note", "n-1"), onN1),
		relies("no links", toChange("berth", "b-1", "20", "b", ""), onB1),
		relies("all links as before", j2("b-3", "j-1", "j-1"), onJ2),
		relies("all as before", seen(20, j2("b-3", "j-1", "j-1")), onJ2),
		relies("all links become nothing", j2("", "", ""), onJ2),
		relies("one link becomes nothing", j2("b-3", "", "j-1"), onJ2),
		relies("a link that holds", j2("b-2", "j-1", "j-1"), onJ2, onB2),
		relies("a link that owns", j2("b-3", "j-2", "j-1"), onJ2, onJ2),
		relies("a link that leans", j2("b-3", "j-1", "j-2"), onJ2, onJ2),
		relies("a link that was not set", j1("b-1", "j-2", ""), onJ1, onJ2),
		relies("links that were not set, and one that was", j1("b-2", "j-2", "j-2"), onJ1, onB2, onJ2, onJ2),
		relies("one as before, one that is nothing, one anew", j1("b-1", "", "j-2"), onJ1, onJ2),
		relies("the first anew, the others as before", j2("b-1", "j-1", "j-1"), onJ2, onB1),
		relies("to itself", j1("b-1", "j-1", ""), onJ1, onJ1),
		relies("to itself, twice", j1("b-1", "j-1", "j-1"), onJ1, onJ1, onJ1),
		relies("to itself, as before", j1("b-1", "j-1", "j-2"), onJ1, onJ2).with(was(atJ1, func(o *impl.GateObject) { o.Values[4] = "j-1" })),
		relies("what another link had before", j2("", "", "j-1"), onJ2, onJ1).with(was(atJ2, func(o *impl.GateObject) { o.Values[5] = "j-2" })),
		relies("two links, each what the other was", j1("", "j-2", "j-1"), onJ1, onJ2, onJ1).with(was(atJ1, func(o *impl.GateObject) { o.Values[4], o.Values[5] = "j-1", "j-2" })),
		relies("a link that must be set", toChange("tag", "t-1", "x", "j-2"), onT1, onJ2),
		relies("a link that must be set, as before", toChange("tag", "t-1", "x", "j-1"), onT1),
		relies("what is Ending, as before, and one anew", j2("b-3", "j-2", ""), onJ2, onJ2),
		relies("the version that was seen", seen(20, j2("b-2", "j-1", "")), onJ2, onB2),
		relies("what is filled in stays as it was asked", toChange("berth", "b-1", "1", "", ""), onB1),
		relies("what is mended stays as it was asked", toChange("job", "j-1", "", "1", "big", "b-2", "", ""), onJ1, onB2),
		relies("what is fixed, mended to what it was", toChange("job", "j-1", "8", "9", "small", "b-1", "", ""), onJ1),
		relies("by somebody else", asks("bob", j2("", "j-1", "")), onJ2),
		relies("the last version that there may be", j2("b-1", "j-1", ""), onJ2, onB1).with(oneLeft),
		relies("among all objects that there may be", j2("b-1", "j-1", ""), onJ2, onB1).with(objectsUpTo(impl.GateMaxObjects)),

		relies("through a door without purses", toChange("job", "j-2", "4", "3", "small", "b-1", "j-1", "j-1"), onJ2, onB1).through("e"),
		relies("less, through a door without purses", toChange("job", "j-2", "1", "3", "small", "b-3", "j-1", "j-1"), onJ2).through("e"),
		relies("one more than a purse has", toChange("job", "j-2", "14", "3", "small", "b-3", "j-1", "j-1"), onJ2),
		relies("more than any purse could have", toChange("job", "j-2", "32", "8", "small", "b-3", "j-1", ""), onJ2),
	})
}

func TestGateSlipOfOtherVerbs(t *testing.T) {
	checkSlips(t, []slipCase{
		relies("the end of what has no links", toEnd("berth", "b-1"), onB1),
		relies("the end of what has links", toEnd("job", "j-2"), onJ2),
		relies("the end of what links to itself", toEnd("job", "j-1"), onJ1).with(was(atJ1, func(o *impl.GateObject) { o.Values[4] = "j-1" })),
		relies("the end of the last object, seen", seen(7, toEnd("tag", "t-1")), onT1),
		relies("an end through a door without purses", toEnd("job", "j-1"), onJ1).through("e"),
		relies("an end, the last version that there may be", toEnd("note", "n-1"), onN1).with(oneLeft),
		relies("a hold", toLetGo("job", "j-1", "count"), onJ1),
		relies("a hold of an Ending one", toLetGo("job", "j-3", "clean"), onJ3),
		relies("a hold of what has links", toLetGo("job", "j-2", "h"), onJ2).with(func(b book) { b.Objects[atJ2].Holds = texts{"h"} }),
		relies("a hold of a berth", asks("dan", toLetGo("berth", "b-3", "h")), onB3).with(func(b book) { b.Objects[atB3].Holds = texts{"h"} }),
		relies("a gift", toGive("bob", rule("", 1, 2, 3, 4, 5))),
		relies("a gift of a kind and a team", toGive("bob", ofKind("job", ofTeam("lab", rule("j-1", 2, 3))))),
		relies("the last gift that there may be", toGive("bob", rule("", 1))).with(grantsUpTo(impl.GateMaxGrants - 1)),
		relies("a gift through a door without purses", toGive("bob", rule("", 1))).through("e"),
		relies("a take", toTake(6)),
		relies("a take by who gave it", asks("bob", toTake(6))),
		relies("the take of the only grant", toTake(1)).with(func(b book) { b.Grants = b.Grants[:1] }),
		relies("a gift in a book of nothing but a grant", toGive("bob", rule("", 1))).with(func(b book) {
			*b = impl.GateBook{Now: 1, Given: 1, Grants: b.Grants[:1]}
		}),
	})
}

func TestGateSlipOfRefused(t *testing.T) {
	six := texts{"", "", "", "", "", ""}
	j2 := func(values ...string) ask { return toChange("job", "j-2", values...) }
	checkSlips(t, []slipCase{
		noSlip("no door", toTake(6), refused(1, 0)).through(""),
		noSlip("no ask", ask{}, refused(2, 0)),
		noSlip("a value too many", toMake("note", "n", "dev", ""), refused(2, 0)),

		noSlip("to make what is there", toMake("job", "j-1", "lab", six...), refused(3, 0)),
		noSlip("to change what is not there", toChange("job", "j-9", six...), refused(3, 0)),
		noSlip("to end what is not there", toEnd("job", "j-9"), refused(3, 0)),
		noSlip("a hold of what is not there", toLetGo("job", "j-9", "clean"), refused(3, 0)),
		noSlip("to take what is not there", toTake(2), refused(3, 0)),

		noSlip("they may not make it", asks("eve", toMake("note", "n", "dev")), refused(4, 0)),
		noSlip("they may not change it", asks("eve", toChange("note", "n-1")), refused(4, 0)),
		noSlip("they may not end it", asks("eve", toEnd("note", "n-1")), refused(4, 0)),
		noSlip("they may not let it go", asks("eve", toLetGo("job", "j-1", "clean")), refused(4, 0)),
		noSlip("they may not give it", asks("bob", toGive("eve", rule("j", 1))), refused(4, 0)),
		noSlip("they may not take it", asks("eve", toTake(6)), refused(4, 0)),

		noSlip("another version, to change it", seen(19, j2(six...)), impl.GateSaid{Code: 5, Version: 20}),
		noSlip("another version, to end it", seen(5, toEnd("job", "j-1")), impl.GateSaid{Code: 5, Version: 4}),
		noSlip("to change an Ending one", toChange("berth", "b-3", "4", "a", ""), refused(6, 0)),
		noSlip("to end an Ending one", toEnd("berth", "b-3"), refused(6, 0)),

		noSlip("to make what does not fit", toMake("tag", "t-9", "dev", "x", ""), refused(7, 1)),
		noSlip("to change to what does not fit", j2("3", "3", "small", "b 1", "j-1", "j-1"), refused(7, 3)),
		noSlip("fixed", j2("3", "3", "big", "b-3", "j-1", "j-1"), refused(8, 2)),
		noSlip("fixed, turned by a mend", j2("3", "9", "small", "b-3", "j-1", "j-1"), refused(8, 2)),

		noSlip("to make a link to nothing", toMake("job", "j-9", "lab", "", "", "", "b-9", "", ""), refused(9, 3)),
		noSlip("to make a link to an Ending one", toMake("job", "j-9", "lab", "", "", "", "b-1", "j-3", ""), refused(9, 4)),
		noSlip("to make a link to itself", toMake("job", "j-9", "lab", "", "", "", "b-1", "", "j-9"), refused(9, 5)),
		noSlip("to change a link to an Ending one", j2("3", "3", "small", "b-3", "j-1", "j-3"), refused(9, 5)),
		noSlip("what is too dear, and a link to nothing", toMake("job", "j-9", "yard", "32", "9", "", "b-9", "", ""), refused(9, 3)),

		noSlip("one object too many", toMake("note", "y", "ops"), refused(11, 0), objectsUpTo(impl.GateMaxObjects)),
		noSlip("one object too many, too dear", toMake("berth", "y", "ops", "64", "", ""), refused(11, 0), objectsUpTo(impl.GateMaxObjects)),
		noSlip("no such hold", toLetGo("job", "j-1", "h"), refused(11, 0)),
		noSlip("one grant too many", toGive("bob", rule("", 1)), refused(11, 0), grantsUpTo(impl.GateMaxGrants)),
		noSlip("no version to make it", toMake("note", "y", "ops"), refused(11, 0), atLast),
		noSlip("no version to change it", toChange("note", "n-1"), refused(11, 0), atLast),
		noSlip("no version to change it, too dear", j2("32", "8", "small", "b-3", "j-1", "j-1"), refused(11, 0), atLast),
		noSlip("no version to end it", toEnd("note", "n-1"), refused(11, 0), atLast),
		noSlip("no version to let it go", toLetGo("job", "j-1", "clean"), refused(11, 0), atLast),
		noSlip("no version to give it", toGive("bob", rule("", 1)), refused(11, 0), atLast),
		noSlip("no version to take it", toTake(6), refused(11, 0), atLast),
	})
}

// The codes of a slip are those of the ask, in their order, but that the purses are nowhere in it.
func TestGateSlipOfOrderOfCodes(t *testing.T) {
	for _, h := range hurdledAsks() {
		for set := range 1 << len(h.hurdles) {
			c := h.put(set, func(said impl.GateSaid) bool { return said.Code != 10 })
			view := pierBook()
			c.edit(&view)
			got, said := impl.GateSlipOf(pierLaw(), view, c.door, c.ask)
			if said != c.said || said.Code != 0 && !same(got, slip{}) || said.Code == 0 && (got.Door != c.door || !same(got.Ask, c.ask)) {
				t.Errorf("%s: %+v and %+v, not %+v", c.what, said, got, c.said)
			}
		}
	}
}

func TestGateSlipOfWhatIsNotOk(t *testing.T) {
	first := impl.GateBook{Now: 1, Given: 1, Grants: pierBook().Grants[:1]}
	none := func(what string, l impl.GateLaw, view impl.GateBook, door string, a ask) {
		t.Helper()
		if got, said := impl.GateSlipOf(l, view, door, a); said != refused(1, 0) || !same(got, slip{}) {
			t.Errorf("%s: %+v, %+v", what, said, got)
		}
	}
	linkTo := func(edit func(f *impl.GateField)) impl.GateLaw {
		l := pierLaw()
		edit(&l.Shapes[1].Fields[3])
		return l
	}
	byMend := pierLaw()
	byMend.Mends = mendList{{Kind: "job", Field: "on", Put: "b-1"}}
	for _, c := range okAsks() {
		for what, l := range badLaws() {
			none(what, l, first, "d-1", c.ask)
		}
		none("a link that would be filled in", linkTo(func(f *impl.GateField) { f.Default = "b-1" }), first, "d-1", c.ask)
		none("a link that would be mended", byMend, first, "d-1", c.ask)
		for what, view := range badBooks() {
			for _, door := range []string{"d-1", ""} {
				for _, a := range []ask{c.ask, {}} {
					none(what, pierLaw(), view, door, a)
				}
			}
		}
		for _, door := range wrongNames {
			none("door "+strconv.Quote(door), pierLaw(), pierBook(), door, c.ask)
		}
	}
	none("nothing but a law", pierLaw(), impl.GateBook{}, "", ask{})
	if got, said := impl.GateSlipOf(impl.GateLaw{}, first, "d-1", toGive("bob", rule("", 1))); said != (impl.GateSaid{}) || !same(got, slip{Door: "d-1", Ask: toGive("bob", rule("", 1)), Given: 1}) {
		t.Errorf("a law of nothing: %+v, %+v", said, got)
	}
}

// pierSlip is a slip of pierBook that relies on as much as there is to rely on.
func pierSlip() slip {
	return slip{Door: "d-1", Ask: toMake("job", "j-9", "lab", "5", "2", "small", "b-1", "j-1", "j-2"), Given: 9, Wants: []want{onJ9, onB1, onJ1, onJ2}}
}

func checkSlipOk(t *testing.T, what string, l impl.GateLaw, s slip, expected bool) {
	t.Helper()
	l, s = spread(l), spread(s)
	lawAhead, slipAhead := whole(l), whole(s)
	if got := impl.GateSlipOk(l, s); got != expected {
		t.Errorf("%s: ok is %v of %+v", what, got, s)
	}
	if !same(whole(l), lawAhead) || !same(whole(s), slipAhead) {
		t.Errorf("%s: an argument is changed", what)
	}
}

func TestGateSlipOk(t *testing.T) {
	checkSlipOk(t, "as it is", pierLaw(), pierSlip(), true)
	checkSlipOk(t, "nothing", pierLaw(), slip{}, false)
	checkSlipOk(t, "nothing of nothing", impl.GateLaw{}, slip{}, false)
	check := func(what string, expected bool, edit func(s *slip)) {
		t.Helper()
		s := pierSlip()
		edit(&s)
		checkSlipOk(t, what, pierLaw(), s, expected)
	}
	checkNames := func(what string, set func(s *slip, name string)) {
		t.Helper()
		for _, name := range okNames {
			check(what+" "+name, true, func(s *slip) { set(s, name) })
		}
		for _, name := range wrongNames {
			check(what+" "+strconv.Quote(name), false, func(s *slip) { set(s, name) })
		}
	}
	checkNumbers := func(what string, set func(s *slip, number int)) {
		t.Helper()
		for _, number := range []int{0, 1, 9, impl.GateMaxVersion, impl.GateMaxVersion + 1, math.MaxInt} {
			check(what+" "+strconv.Itoa(number), true, func(s *slip) { set(s, number) })
		}
		for _, number := range []int{-1, -9, math.MinInt} {
			check(what+" "+strconv.Itoa(number), false, func(s *slip) { set(s, number) })
		}
	}
	checkNames("Door", func(s *slip, name string) { s.Door = name })
	checkNumbers("Given", func(s *slip, number int) { s.Given = number })
	for place := range pierSlip().Wants {
		at := strconv.Itoa(place) + ": "
		checkNames(at+"Kind", func(s *slip, name string) { s.Wants[place].Kind = name })
		checkNames(at+"Name", func(s *slip, name string) { s.Wants[place].Name = name })
		checkNumbers(at+"Version", func(s *slip, number int) { s.Wants[place].Version = number })
	}
	for n := range impl.GateMaxWants + 4 {
		wants := slices.Repeat([]want{onB1}, n)
		check(strconv.Itoa(n)+" wants", n <= impl.GateMaxWants, func(s *slip) { s.Wants = wants })
	}
	check("the last of all wants is not ok", false, func(s *slip) {
		s.Wants = append(slices.Repeat([]want{onB1}, impl.GateMaxWants-1), on("", "b-1", 1))
	})
	check("wants that the ask does not need, out of order, twice", true, func(s *slip) { s.Wants = []want{onT1, onB3, onT1} })
	check("a want of a kind that is not there", true, func(s *slip) { s.Wants = []want{on("ship", "s", 3)} })
	check("a want of nothing", false, func(s *slip) { s.Wants = []want{{}} })
	check("no wants, and a list that is not nil", true, func(s *slip) { s.Wants = []want{} })
}

func TestGateSlipOkAsk(t *testing.T) {
	of := func(a ask) slip {
		s := pierSlip()
		s.Ask = a
		return s
	}
	checkSlipOk(t, "no ask", pierLaw(), of(ask{}), false)
	for _, c := range okAsks() {
		checkSlipOk(t, "an ok ask", pierLaw(), of(c.ask), true)
		checkSlipOk(t, "a bad Who", pierLaw(), of(asks("Ann", c.ask)), false)
		for _, part := range askParts() {
			edits, ok := part.something, false
			if slices.Contains(c.uses, part.name) {
				edits = part.bad
				for _, edit := range part.ok {
					a := spread(c.ask)
					edit(&a)
					checkSlipOk(t, "a good "+part.name, pierLaw(), of(a), true)
				}
			}
			for _, edit := range edits {
				a := spread(c.ask)
				edit(&a)
				checkSlipOk(t, "a bad "+part.name, pierLaw(), of(a), ok)
			}
		}
	}
	for what, l := range badLaws() {
		for _, a := range []ask{toEnd("job", "j"), toLetGo("job", "j", "h"), toGive("bob", rule("", 1)), toTake(1)} {
			checkSlipOk(t, what, fleetLaw(), of(a), true)
			checkSlipOk(t, what, l, of(a), false)
		}
	}
}

// commitCase says what committing a slip makes of pierBook, turned by edit ahead of it.
type commitCase struct {
	what string
	slip slip
	edit func(b book)
	said impl.GateSaid
}

// commits is a case of pierSlip, turned.
func commits(what string, said impl.GateSaid, turn func(s *slip), edits ...func(b book)) commitCase {
	s := pierSlip()
	turn(&s)
	return commitCase{what, s, each(edits...), said}
}

func asItIs(*slip) {}

func checkCommit(t *testing.T, c commitCase) {
	t.Helper()
	b := pierBook()
	c.edit(&b)
	expected := impl.GateBook{}
	switch c.said.Code {
	case 1, 2:
	case 12:
		expected = b
	default:
		book, said := passed(pierLaw(), b, c.slip.Door, c.slip.Ask)
		expected = book
		if c.said.Code == 0 {
			c.said.Version = b.Now + 1
		}
		if said != c.said {
			t.Errorf("%s: the ask itself is told %+v", c.what, said)
		}
	}
	l, b, s := spread(pierLaw()), spread(b), spread(c.slip)
	lawAhead, bookAhead, slipAhead := whole(l), whole(b), whole(s)
	got, said := impl.GateCommit(l, b, s)
	if said != c.said || !same(got, expected) {
		t.Errorf("%s: %+v and %+v, not %+v and %+v", c.what, said, got, c.said, expected)
	}
	if !same(whole(l), lawAhead) || !same(whole(b), bookAhead) || !same(whole(s), slipAhead) {
		t.Errorf("%s: an argument is changed", c.what)
	}
	newMemory(t, c.what, got, l, b, s)
}

func late(place int) impl.GateSaid {
	return refused(12, place)
}

func TestGateCommit(t *testing.T) {
	wanting := func(wants ...want) func(s *slip) { return func(s *slip) { s.Wants = wants } }
	asking := func(a ask, wants ...want) func(s *slip) {
		return func(s *slip) { s.Ask, s.Wants = a, wants }
	}
	givenAt := func(given int) func(s *slip) { return func(s *slip) { s.Given = given } }
	version := func(place, to int) func(b book) { return func(b book) { b.Objects[place].Version = to } }
	none := impl.GateSaid{}
	for _, c := range []commitCase{
		commits("all is as it was seen", none, asItIs),
		commits("no wants", none, wanting()),
		commits("another book, all wants as they were", none, asItIs, version(atT1, 19), version(atB2, 18), frees(devNeed, 3), emptied(5)),
		commits("wants twice, and out of order", none, wanting(onT1, onJ9, onB1, onT1, onJ9)),
		commits("as many wants as there may be", none, wanting(onB1, onB2, onB3, onJ1, onJ2, onJ3, onN1, onT1)),
		commits("a want of an Ending one", none, wanting(onB3)),
		commits("a want that what is not there is not", none, wanting(on("note", "n-2", 0))),
		commits("a want that a name of another kind is not there", none, wanting(on("note", "b-1", 0))),
		commits("a want that the beginning of a name is not there", none, wanting(on("berth", "b-", 0), on("berth", "b", 0), on("b", "b-1", 0))),
		commits("a want that a kind which is none is not there", none, wanting(on("ship", "s", 0))),
		commits("a change", none, asking(seen(20, toChange("job", "j-2", "4", "3", "small", "b-1", "j-1", "")), onJ2, onB1)),
		commits("an end", none, asking(toEnd("job", "j-1"), onJ1)),
		commits("a hold", none, asking(toLetGo("job", "j-3", "clean"), onJ3)),
		commits("a gift", none, asking(toGive("bob", rule("", 1)))),
		commits("a take", none, asking(toTake(6))),
		commits("a gift, with wants", none, asking(toGive("bob", rule("", 1)), onB1, onJ9)),
		commits("Given 0, of the book too", refused(4, 0), givenAt(0), func(b book) { b.Given, b.Grants = 0, nil }),

		commits("Given one less", late(0), givenAt(8)),
		commits("Given one more", late(0), givenAt(10)),
		commits("Given 0", late(0), givenAt(0)),
		commits("Given is the book's Now", late(0), givenAt(20)),
		commits("the greatest Given", late(0), givenAt(math.MaxInt)),
		commits("somebody gave since", late(0), asItIs, func(b book) { b.Given = 20 }),
		commits("another Given, and no wants", late(0), func(s *slip) { s.Given, s.Wants = 8, nil }),
		commits("a gift, another Given", late(0), func(s *slip) { s.Ask, s.Given, s.Wants = toGive("bob", rule("", 1)), 8, nil }),

		commits("what is to be made is there", late(1), wanting(on("job", "j-1", 0))),
		commits("what is to be made was made since", late(1), asItIs, func(b book) {
			b.Objects = slices.Insert(b.Objects, atJ3+1, object(5, "job", "j-9", "ops", "1", "", "", "", "", ""))
		}),
		commits("an Ending one is there", late(1), wanting(on("berth", "b-3", 0))),
		commits("the second want has another version", late(2), asItIs, version(atB1, 2)),
		commits("the third want has another version", late(3), asItIs, version(atJ1, 20)),
		commits("the last want has another version", late(4), asItIs, version(atJ2, 19)),
		commits("the first of two that have another version", late(3), asItIs, version(atJ1, 5), version(atJ2, 19)),
		commits("an older version", late(1), wanting(on("berth", "b-2", 1))),
		commits("a newer version", late(1), wanting(on("berth", "b-2", 3))),
		commits("the greatest version", late(1), wanting(on("berth", "b-2", math.MaxInt))),
		commits("what is not there, with a version", late(2), wanting(onB1, on("job", "j-9", 4))),
		commits("what is not there, with the version of Now", late(2), wanting(onB1, on("job", "j-9", 20))),
		commits("another kind has the name and the version", late(1), wanting(on("berth", "j-1", 4))),
		commits("another name has the kind and the version", late(1), wanting(on("job", "j-1", 20))),
		commits("a kind that is not there", late(1), wanting(on("ship", "b-1", 1))),
		commits("the last of as many wants as there may be", late(8), wanting(onB1, onB2, onB3, onJ1, onJ2, onJ3, onN1, on("tag", "t-1", 8))),
		commits("the first of as many wants as there may be", late(1), wanting(on("berth", "b-1", 2), onB2, onB3, onJ1, onJ2, onJ3, onN1, on("tag", "t-1", 8))),
		commits("a gift, with a want", late(1), asking(toGive("bob", rule("", 1)), on("berth", "b-1", 2))),
		commits("a book without objects", late(2), asItIs, func(b book) { b.Objects = nil; noLedgers(b) }),

		commits("no door", refused(2, 0), func(s *slip) { s.Door = "" }),
		commits("a door that is no name", refused(2, 0), func(s *slip) { s.Door = "D" }),
		commits("an ask that is not ok", refused(2, 0), func(s *slip) { s.Ask.Number = 1 }),
		commits("no ask", refused(2, 0), asking(ask{}, onB1)),
		commits("Given below 0", refused(2, 0), givenAt(-1)),
		commits("a want too many", refused(2, 0), wanting(slices.Repeat([]want{onB1}, impl.GateMaxWants+1)...)),
		commits("a want without a kind", refused(2, 0), wanting(on("", "b-1", 1))),
		commits("a want without a name", refused(2, 0), wanting(onB1, on("berth", "", 0))),
		commits("a want with a version below 0", refused(2, 0), wanting(onB1, on("berth", "b-9", -1))),
	} {
		checkCommit(t, c)
	}
}

// What an ask is told where all wants are so, though they are not those of the ask.
func TestGateCommitAsTheAsk(t *testing.T) {
	six := texts{"", "", "", "", "", ""}
	asked := func(what string, said impl.GateSaid, a ask, edits ...func(b book)) commitCase {
		return commits(what, said, func(s *slip) { s.Ask, s.Wants = a, []want{onB1, onJ1} }, edits...)
	}
	for _, c := range []commitCase{
		asked("it is there", refused(3, 0), toMake("job", "j-1", "lab", six...)),
		asked("it is not there", refused(3, 0), toEnd("job", "j-9")),
		asked("no such grant", refused(3, 0), toTake(2)),
		asked("they may not", refused(4, 0), asks("eve", toEnd("job", "j-1"))),
		asked("they may not give", refused(4, 0), asks("bob", toGive("eve", rule("j", 1)))),
		asked("another version", impl.GateSaid{Code: 5, Version: 20}, seen(4, toEnd("job", "j-2"))),
		asked("it is Ending", refused(6, 0), toEnd("berth", "b-3")),
		asked("it does not fit", refused(7, 1), toMake("tag", "t-9", "lab", "x", "J")),
		asked("it is fixed", refused(8, 2), toChange("job", "j-2", "3", "3", "big", "b-3", "j-1", "j-1")),
		asked("a link to an Ending one", refused(9, 3), toMake("job", "j-9", "lab", "", "", "", "b-3", "", "")),
		asked("too dear", refused(10, labNeed), toMake("job", "j-9", "lab", "11", "5", "", "", "", "")),
		asked("too dear, the last ledger", refused(10, yardFuel), toChange("job", "j-2", "3", "6", "small", "b-3", "j-1", "j-1")),
		asked("no such hold", refused(11, 0), toLetGo("job", "j-1", "h")),
		asked("one object too many", refused(11, 0), toMake("note", "y", "ops"), objectsUpTo(impl.GateMaxObjects)),
		asked("no versions", refused(11, 0), toEnd("job", "j-1"), atLast),
		commits("one grant too many", refused(11, 0), func(s *slip) { *s = slip{Door: "e", Ask: toGive("bob", rule("", 1)), Given: 50} }, grantsUpTo(impl.GateMaxGrants)),
		commits("through another door, too dear", refused(10, devJob), func(s *slip) { s.Door = "d-2" }),
		commits("the purse went back since", refused(10, devNeed), asItIs, emptied(myDevNeed), frees(devNeed, 12)),
	} {
		checkCommit(t, c)
	}
}

func TestGateCommitOfWhatIsNotOk(t *testing.T) {
	none := func(what string, l impl.GateLaw, b impl.GateBook, s slip) {
		t.Helper()
		if got, said := impl.GateCommit(l, b, s); said != refused(1, 0) || !same(got, impl.GateBook{}) {
			t.Errorf("%s: %+v, %+v", what, said, got)
		}
	}
	first := impl.GateBook{Now: 1, Given: 1, Grants: pierBook().Grants[:1]}
	for what, l := range badLaws() {
		for _, s := range []slip{{Door: "d-1", Ask: toGive("bob", rule("", 1)), Given: 1}, pierSlip(), {}} {
			none(what, l, first, s)
		}
	}
	for what, b := range badBooks() {
		for _, s := range []slip{pierSlip(), {}, {Door: "d-1", Ask: toTake(6), Given: 1}} {
			none(what, pierLaw(), b, s)
		}
	}
}

// commitHurdle is one thing in the way of a slip.
type commitHurdle struct {
	said impl.GateSaid
	put  func(b book, s *slip)
}

// Of all that is in the way together, in all ways to put some of it there, the first one is told.
func TestGateCommitOrderOfCodes(t *testing.T) {
	inTheSlip := func(said impl.GateSaid, put func(s *slip)) commitHurdle {
		return commitHurdle{said, func(b book, s *slip) { put(s) }}
	}
	aged := func(place int) commitHurdle {
		return inTheSlip(late(place+1), func(s *slip) { s.Wants[place].Version = 19 })
	}
	hurdles := []commitHurdle{
		{refused(1, 0), func(b book, s *slip) { b.Tick = -1 }},
		inTheSlip(refused(2, 0), func(s *slip) { s.Door = "D" }),
		inTheSlip(late(0), func(s *slip) { s.Given = 8 }),
		aged(0), aged(1), aged(3),
		inTheSlip(refused(4, 0), func(s *slip) { s.Ask.Who = "eve" }),
		inTheSlip(refused(7, 1), func(s *slip) { s.Ask.Values[1] = "x" }),
		inTheSlip(refused(9, 4), func(s *slip) { s.Ask.Values[4] = "j-3" }),
		{refused(11, 0), func(b book, s *slip) { b.Now = impl.GateMaxVersion }},
	}
	for set := range 1 << len(hurdles) {
		b, s, said := pierBook(), spread(pierSlip()), impl.GateSaid{}
		for i, h := range hurdles {
			if set>>i&1 == 0 {
				continue
			}
			h.put(&b, &s)
			if said.Code == 0 {
				said = h.said
			}
		}
		checkCommit(t, commitCase{"hurdles " + strconv.Itoa(set), s, func(to book) { *to = b }, said})
	}
}

// A slip is done once, and what it was made of is done to what others left alone.
func TestGateCommitBehindOthers(t *testing.T) {
	l := pierLaw()
	s, _ := impl.GateSlipOf(l, pierBook(), "d-1", pierSlip().Ask)
	for _, c := range []struct {
		what string
		ask  ask
		said impl.GateSaid
	}{
		{"what it links to is changed", toChange("berth", "b-1", "16", "a", ""), late(2)},
		{"what it links to is ended", toEnd("job", "j-1"), late(3)},
		{"a hold of what it links to goes", toLetGo("job", "j-1", "lock"), late(3)},
		{"what it links to is changed, the last", toChange("job", "j-2", "3", "3", "small", "b-3", "j-1", ""), late(4)},
		{"it is made by another", toMake("job", "j-9", "ops", "", "", "", "", "", ""), late(1)},
		{"something is given", toGive("bob", rule("", 1)), late(0)},
		{"something is taken", toTake(9), late(0)},
		{"it is done already", pierSlip().Ask, late(1)},
		{"something else is changed", toChange("berth", "b-2", "8", "b", "8"), impl.GateSaid{Version: 22}},
		{"something else is ended", toEnd("tag", "t-1"), impl.GateSaid{Version: 22}},
		{"something else is made", toMake("note", "j-9", "ops"), impl.GateSaid{Version: 22}},
		{"the purse is used up", toMake("job", "j-8", "lab", "1", "", "", "", "", ""), refused(10, devJob)},
	} {
		b, said := impl.GatePass(l, pierBook(), "d-1", c.ask)
		if said.Code != 0 {
			t.Fatalf("%s: not done: %+v", c.what, said)
		}
		got, said := impl.GateCommit(l, b, s)
		if said != c.said {
			t.Errorf("%s: %+v, not %+v", c.what, said, c.said)
		}
		if said.Code != 0 && !same(got, b) {
			t.Errorf("%s: the book is changed: %+v", c.what, got)
		}
	}
}
