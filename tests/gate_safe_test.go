package tests

import (
	"testing"

	"loop.example/wharfdesk/impl"
)

// grantsOf is a book with a grant of each rule, and nothing else.
func grantsOf(rules ...impl.GateRule) impl.GateBook {
	b := impl.GateBook{Now: len(rules), Given: len(rules)}
	for i, r := range rules {
		b.Grants = append(b.Grants, impl.GateGrant{Number: i + 1, To: "ann", Rule: r})
	}
	return b
}

func checkSafe(t *testing.T, what string, l impl.GateLaw, first impl.GateBook, w impl.GateWorld, want bool) {
	t.Helper()
	l, first, w = spread(l), spread(first), spread(w)
	lawAhead, firstAhead, worldAhead := whole(l), whole(first), whole(w)
	if got := impl.GateSafe(l, first, w); got != want || isSafe(l, first, w) != want {
		t.Errorf("%s: safe is %v", what, got)
	}
	if !same(whole(l), lawAhead) || !same(whole(first), firstAhead) || !same(whole(w), worldAhead) {
		t.Errorf("%s: an argument is changed", what)
	}
}

func TestGateSafe(t *testing.T) {
	everything := rule("", 1, 2, 3, 4, 5)
	for _, c := range []struct {
		what  string
		first ruleList
		now   ruleList
		want  bool
	}{
		{"no grants at all", nil, nil, true},
		{"no grants any more", ruleList{everything}, nil, true},
		{"a grant out of nothing", nil, ruleList{rule("", 1)}, false},
		{"the same", ruleList{rule("j", 1, 3)}, ruleList{rule("j", 1, 3)}, true},
		{"the same, many times", ruleList{rule("j", 1, 3)}, ruleList{rule("j", 1, 3), rule("j", 1, 3), rule("j", 1, 3)}, true},

		{"fewer verbs", ruleList{everything}, ruleList{rule("", 2, 5)}, true},
		{"one verb more", ruleList{rule("", 1, 2, 3, 4)}, ruleList{everything}, false},
		{"another verb", ruleList{rule("", 1)}, ruleList{rule("", 2)}, false},
		{"a kind of all", ruleList{rule("", 1)}, ruleList{ofKind("job", rule("", 1))}, true},
		{"all kinds of one", ruleList{ofKind("job", rule("", 1))}, ruleList{rule("", 1)}, false},
		{"another kind", ruleList{ofKind("job", rule("", 1))}, ruleList{ofKind("berth", rule("", 1))}, false},
		{"a kind that no shape has", ruleList{ofKind("ship", rule("", 1))}, ruleList{ofKind("ship", rule("", 1))}, true},
		{"a team of all", ruleList{rule("", 1)}, ruleList{ofTeam("lab", rule("", 1))}, true},
		{"a team under it", ruleList{ofTeam("dev", rule("", 1))}, ruleList{ofTeam("yard", rule("", 1))}, true},
		{"the team over it", ruleList{ofTeam("lab", rule("", 1))}, ruleList{ofTeam("dev", rule("", 1))}, false},
		{"all teams of one", ruleList{ofTeam("dev", rule("", 1))}, ruleList{rule("", 1)}, false},
		{"a team that is not there", ruleList{rule("", 1)}, ruleList{ofTeam("ghost", rule("", 1))}, true},
		{"a longer prefix", ruleList{rule("j", 1)}, ruleList{rule("j-", 1)}, true},
		{"a shorter prefix", ruleList{rule("j-", 1)}, ruleList{rule("j", 1)}, false},
		{"another prefix", ruleList{rule("j", 1)}, ruleList{rule("b", 1)}, false},
		{"no prefix", ruleList{rule("j", 1)}, ruleList{rule("", 1)}, false},

		{"by several together, a verb each", ruleList{rule("j", 1), ofKind("job", rule("", 3)), ofTeam("dev", rule("", 5))}, ruleList{ofKind("job", ofTeam("lab", rule("j-", 1, 3, 5)))}, true},
		{"by several together, but for one verb", ruleList{rule("j", 1), ofKind("job", rule("", 3)), ofTeam("dev", rule("", 5))}, ruleList{ofKind("job", ofTeam("lab", rule("j-", 1, 3, 4, 5)))}, false},
		{"by several together, but for one verb's team", ruleList{rule("j", 1), ofTeam("ops", rule("", 5))}, ruleList{ofTeam("lab", rule("j-", 1, 5))}, false},
		{"all kinds, kind by kind", ruleList{ofKind("berth", rule("", 1)), ofKind("job", rule("", 1)), ofKind("note", rule("", 1)), ofKind("tag", rule("", 1))}, ruleList{rule("", 1)}, false},
		{"all teams, team by team", ruleList{ofTeam("dev", rule("", 1)), ofTeam("ops", rule("", 1))}, ruleList{rule("", 1)}, false},
		{"a verb, a kind and a team of three rules", ruleList{ofKind("job", rule("", 1)), ofTeam("ops", rule("", 2))}, ruleList{ofKind("job", ofTeam("ops", rule("", 1, 2)))}, true},
		{"one of the other's", ruleList{rule("a", 1), rule("b", 2)}, ruleList{rule("b", 2), rule("a", 1)}, true},
		{"crossed", ruleList{rule("a", 1), rule("b", 2)}, ruleList{rule("b", 1), rule("a", 2)}, false},

		{"the first is not covered", ruleList{rule("j", 1)}, ruleList{rule("b", 1), rule("j", 1), rule("j-", 1)}, false},
		{"one between others is not covered", ruleList{rule("j", 1)}, ruleList{rule("j", 1), rule("b", 1), rule("j-", 1)}, false},
		{"the last is not covered", ruleList{rule("j", 1)}, ruleList{rule("j", 1), rule("j-", 1), rule("b", 1)}, false},
		{"none is covered", ruleList{rule("j", 1)}, ruleList{rule("b", 1), rule("", 1)}, false},
		{"the last of the first ones covers", ruleList{rule("a", 1), rule("b", 1), rule("j", 1)}, ruleList{rule("j-1", 1)}, true},
	} {
		checkSafe(t, c.what, pierLaw(), grantsOf(c.first...), impl.GateWorld{Book: grantsOf(c.now...)}, c.want)
	}
}

func TestGateSafeWorlds(t *testing.T) {
	for _, c := range []struct {
		what string
		edit func(first book, w world)
		want bool
	}{
		{"as it is", func(first book, w world) {}, true},
		{"others have the rights", func(first book, w world) { w.Book.Grants[0].To = "eve" }, true},
		{"others gave them", func(first book, w world) { w.Book.Grants[0].By, w.Book.Grants[1].By = "eve", "" }, true},
		{"other Numbers", func(first book, w world) { w.Book.Grants[0].Number = 2 }, true},
		{"first is newer than the world", func(first book, w world) { first.Now, first.Given = 99, 99 }, true},
		{"first has no objects, ledgers and purses", func(first book, w world) { first.Objects = nil; noLedgers(first) }, true},
		{"first has no more than the first grant, which covers all", func(first book, w world) { first.Grants = first.Grants[:1] }, true},
		{"first has all but the first grant", func(first book, w world) { first.Grants = first.Grants[1:] }, false},
		{"first has no grants", func(first book, w world) { first.Grants = nil }, false},
		{"the world has all but the first grant", func(first book, w world) { w.Book.Grants = w.Book.Grants[1:] }, true},
		{"the world has what only a view of it had", func(first book, w world) {
			first.Grants, w.Book.Grants = first.Grants[1:2], w.Book.Grants[1:2]
		}, true},
		{"what is given covers nothing", func(first book, w world) {
			first.Grants[0].Rule, w.Book.Grants = rule("", 1, 2, 3, 4), w.Book.Grants[:1]
		}, false},
		{"no doors", func(first book, w world) { w.Doors = nil }, true},
		{"no doors, and more than first gave", func(first book, w world) { w.Doors, first.Grants = nil, nil }, false},
		{"as many grants as there may be", func(first book, w world) { grantsUpTo(impl.GateMaxGrants)(&w.Book) }, true},
		{"first has as many grants as there may be", func(first book, w world) { grantsUpTo(impl.GateMaxGrants)(first) }, true},

		{"first is nothing, and the world", func(first book, w world) { *first, *w = impl.GateBook{}, impl.GateWorld{} }, true},
		{"first is not ok", func(first book, w world) { first.Tick = -1 }, false},
		{"the Book is not ok", func(first book, w world) { w.Book.Tick = -1 }, false},
		{"a View is not ok", func(first book, w world) { w.Doors[atD2].View.Tick = -1 }, false},
		{"a View is newer than the Book", func(first book, w world) { w.Doors[atD3].View.Now++ }, false},
		{"a door is no name", func(first book, w world) { w.Doors[atD2].Name = "d-1_" }, false},
		{"one door too many", func(first book, w world) { manyDoors(impl.GateMaxDoors + 1)(w) }, false},
		{"as many doors as there may be", func(first book, w world) { manyDoors(impl.GateMaxDoors)(w) }, true},
		{"a slip is not ok", func(first book, w world) { w.Doors[atD1].Slips[2].Given = -1 }, false},
		{"a dead door has a slip", func(first book, w world) { w.Doors[atD1].Up = false }, false},
	} {
		first, w := pierBook(), pierWorld()
		c.edit(&first, &w)
		checkSafe(t, c.what, pierLaw(), first, w, c.want)
	}
	for what, l := range badLaws() {
		checkSafe(t, what, l, impl.GateBook{}, impl.GateWorld{}, false)
	}
	for what, b := range badBooks() {
		checkSafe(t, "first: "+what, pierLaw(), b, pierWorld(), false)
		checkSafe(t, "first, and a world of nothing: "+what, pierLaw(), b, impl.GateWorld{}, false)
		checkSafe(t, "the Book: "+what, pierLaw(), pierBook(), impl.GateWorld{Book: b}, false)
		checkSafe(t, "both: "+what, pierLaw(), b, impl.GateWorld{Book: b}, false)
	}
}

// What is not in the Book yet, or not any more, counts not: neither the grants of a View, nor what a slip asks to give.
func TestGateSafeLooksAtTheBookAlone(t *testing.T) {
	first := grantsOf(rule("j", 1, 5))
	w := impl.GateWorld{Book: grantsOf(rule("j-", 1, 5)), Doors: []door{{
		Name: "d", Up: true,
		View:  grantsOf(rule("", 1, 2, 3, 4, 5)),
		Slips: []slip{{Door: "d", Ask: toGive("eve", rule("", 1, 2, 3, 4, 5)), Given: 1}},
	}}}
	checkSafe(t, "a view and a slip with more", pierLaw(), first, w, true)
	w.Book, w.Doors[0].View = w.Doors[0].View, w.Book
	checkSafe(t, "a view with less", pierLaw(), first, w, false)
}

// A slip of a view in which somebody had more than the first rights gave is not done.
func TestGateSafeStaysWhateverAViewSays(t *testing.T) {
	l, first := pierLaw(), grantsOf(rule("j", 1, 5))
	w := impl.GateWorld{Book: first, Doors: []door{{Name: "d", Up: true, View: grantsOf(rule("", 1, 2, 3, 4, 5))}}}
	for _, c := range []struct {
		ask  ask
		said impl.GateSaid
	}{
		{toGive("eve", rule("", 1)), refused(4, 0)},
		{toGive("ann", rule("j", 1, 2, 5)), refused(4, 0)},
		{toMake("note", "n", "dev"), refused(4, 0)},
		{toMake("note", "j", "dev"), impl.GateSaid{Version: 2}},
		{toGive("eve", rule("j-", 1)), impl.GateSaid{Version: 2}},
	} {
		asked, said := impl.GateStep(l, w, asksAt(0, c.ask))
		if said.Code != 0 {
			t.Fatalf("%+v: %+v", c.ask, said)
		}
		brought, said := impl.GateStep(l, asked, brings(0, 0))
		if said != c.said || !impl.GateSafe(l, first, asked) || !impl.GateSafe(l, first, brought) {
			t.Errorf("%+v: %+v", c.ask, said)
		}
	}
}
