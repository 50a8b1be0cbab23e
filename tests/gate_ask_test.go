package tests

import (
	"maps"
	"math"
	"slices"
	"strconv"
	"testing"

	"loop.example/wharfdesk/impl"
)

// pierLaw has a kind whose objects weigh on several resources, a link of every role, a mend that fills what must be set, one that turns what is fixed, and one that turns what weighs; and a kind without fields.
func pierLaw() impl.GateLaw {
	return impl.GateLaw{
		Shapes: []impl.GateShape{
			{Kind: "berth", Fields: []impl.GateField{
				{Name: "room", Kind: impl.GateNumber, Least: 1, Most: 64, Must: true, Weighs: "room"},
				{Name: "zone", Kind: impl.GateWord, Words: []string{"a", "b"}, Default: "a"},
				{Name: "deep", Kind: impl.GateNumber, Most: 99},
			}},
			{Kind: "job", Fields: []impl.GateField{
				{Name: "need", Kind: impl.GateNumber, Least: 1, Most: 32, Default: "1", Weighs: "need"},
				{Name: "fuel", Kind: impl.GateNumber, Most: 9, Weighs: "fuel"},
				{Name: "mode", Kind: impl.GateWord, Words: []string{"big", "small"}, Fixed: true},
				{Name: "on", Kind: impl.GateLink, To: "berth", Role: impl.GateHolds},
				{Name: "of", Kind: impl.GateLink, To: "job", Role: impl.GateOwned},
				{Name: "by", Kind: impl.GateLink, To: "job", Role: impl.GateLeans},
			}},
			{Kind: "note"},
			{Kind: "tag", Fields: []impl.GateField{
				{Name: "label", Kind: impl.GateText, Least: 1, Most: 4, Must: true, Fixed: true},
				{Name: "of", Kind: impl.GateLink, To: "job", Role: impl.GateOwned, Must: true},
			}},
		},
		Mends: mendList{
			{Kind: "berth", Field: "room", From: "deep"},
			{Kind: "job", Field: "mode", When: "fuel", Is: "9", Put: "big"},
			{Kind: "job", Field: "need", When: "mode", Is: "big", Put: "8"},
		},
		Teams: fleetTeams(),
	}
}

// object is of a version, without Holds.
func object(version int, kind, name, team string, values ...string) impl.GateObject {
	return impl.GateObject{Kind: kind, Name: name, Team: team, Values: values, Version: version}
}

func withHolds(o impl.GateObject, holds ...string) impl.GateObject {
	o.Holds = holds
	return o
}

// pierBook is ok by pierLaw. In it yard, which is in lab, and lab, which is in dev, use 11 of need, 4 of fuel and 2 of job. Ann may do everything, and Bob what begins with `j` in lab; Cy has rights that come to something only together.
func pierBook() impl.GateBook {
	return impl.GateBook{
		Now: 20, Tick: 5, Given: 9,
		Objects: []impl.GateObject{
			object(1, "berth", "b-1", "dev", "16", "a", ""),
			object(2, "berth", "b-2", "ops", "8", "b", "8"),
			ending(object(3, "berth", "b-3", "dev", "4", "a", "")),
			withHolds(object(4, "job", "j-1", "lab", "8", "1", "big", "b-1", "", ""), "clean", "count", "lock"),
			object(20, "job", "j-2", "yard", "3", "3", "small", "b-3", "j-1", "j-1"),
			ending(object(6, "job", "j-3", "ops", "1", "", "", "", "", ""), "clean"),
			object(8, "note", "n-1", "dev"),
			object(7, "tag", "t-1", "lab", "x", "j-1"),
		},
		Grants: []impl.GateGrant{
			{Number: 1, To: "ann", Rule: rule("", 1, 2, 3, 4, 5)},
			{Number: 3, To: "bob", By: "ann", Rule: ofTeam("lab", rule("j", 1, 2, 3))},
			{Number: 4, To: "cy", By: "ann", Rule: ofTeam("lab", rule("", 1, 2))},
			{Number: 6, To: "cy", By: "bob", Rule: ofKind("job", rule("j-", 3, 5))},
			{Number: 9, To: "dan", By: "dan", Rule: ofKind("berth", rule("", 4))},
		},
		Ledgers: []impl.GateLedger{
			{Team: "dev", Resource: "job", Most: 5, Free: 2},
			{Team: "dev", Resource: "need", Most: 40, Free: 14},
			{Team: "lab", Resource: "fuel", Most: 12, Free: 0},
			{Team: "lab", Resource: "need", Most: 30, Free: 9},
			{Team: "ops", Resource: "room", Most: 20, Free: 0},
			{Team: "yard", Resource: "fuel", Most: 9, Free: 4},
		},
		Purses: []impl.GatePurse{
			{Door: "d-1", Team: "dev", Resource: "job", Amount: 1, Until: 5},
			{Door: "d-1", Team: "dev", Resource: "need", Amount: 12, Until: 15},
			{Door: "d-1", Team: "lab", Resource: "fuel", Amount: 5, Until: 8},
			{Door: "d-1", Team: "lab", Resource: "need", Amount: 10, Until: 9},
			{Door: "d-1", Team: "yard", Resource: "fuel", Amount: 2, Until: 9},
			{Door: "d-2", Team: "dev", Resource: "need", Amount: 3, Until: 9},
			{Door: "d-2", Team: "lab", Resource: "fuel", Amount: 3, Until: 9},
			{Door: "d-2", Team: "ops", Resource: "room", Amount: 12, Until: 10},
		},
	}
}

type ask = impl.GateAsk

// What ann asks.

func toMake(kind, name, team string, values ...string) ask {
	return ask{Who: "ann", Verb: impl.GateMake, Kind: kind, Name: name, Team: team, Values: values}
}

func toChange(kind, name string, values ...string) ask {
	return ask{Who: "ann", Verb: impl.GateChange, Kind: kind, Name: name, Values: values}
}

func toEnd(kind, name string) ask {
	return ask{Who: "ann", Verb: impl.GateEnd, Kind: kind, Name: name}
}

func toLetGo(kind, name, hold string) ask {
	return ask{Who: "ann", Verb: impl.GateLetGo, Kind: kind, Name: name, Hold: hold}
}

func toGive(to string, r impl.GateRule) ask {
	return ask{Who: "ann", Verb: impl.GateGive, To: to, Rule: r}
}

func toTake(number int) ask {
	return ask{Who: "ann", Verb: impl.GateTake, Number: number}
}

func asks(who string, a ask) ask {
	a.Who = who
	return a
}

func seen(version int, a ask) ask {
	a.Seen = version
	return a
}

func holding(a ask, holds ...string) ask {
	a.Holds = holds
	return a
}

func TestPierBookIsOk(t *testing.T) {
	if !impl.GateBookOk(pierLaw(), pierBook()) || !bookIsOk(pierLaw(), pierBook()) {
		t.Error("not ok")
	}
}

func TestGateMay(t *testing.T) {
	for _, c := range []struct {
		what string
		who  string
		act  impl.GateAct
		want bool
	}{
		{"a rule for everything", "ann", act(1, "job", "ops", "x"), true},
		{"a rule for everything, the last verb", "ann", act(5, "job", "ops", "x"), true},
		{"a verb that is in no rule", "ann", act(6, "job", "ops", "x"), false},
		{"no verb", "ann", act(0, "job", "ops", "x"), false},
		{"a verb below 0", "ann", act(-1, "job", "ops", "x"), false},
		{"the greatest verb", "ann", act(math.MaxInt, "job", "ops", "x"), false},
		{"the least verb", "ann", act(math.MinInt, "job", "ops", "x"), false},
		{"nothing but a verb", "ann", act(2, "", "", ""), true},
		{"what is not there, of no kind and of no team", "ann", act(2, "Kind", "Team", "\xff"), true},

		{"a rule of a team and a prefix", "bob", act(2, "job", "lab", "j-1"), true},
		{"the prefix alone", "bob", act(2, "job", "lab", "j"), true},
		{"another kind", "bob", act(2, "note", "lab", "j-1"), true},
		{"a verb that the rule has not", "bob", act(4, "job", "lab", "j-1"), false},
		{"to give, which the rule has not", "bob", act(5, "job", "lab", "j-1"), false},
		{"a team under it", "bob", act(2, "job", "yard", "j-1"), true},
		{"the team over it", "bob", act(2, "job", "dev", "j-1"), false},
		{"another team", "bob", act(2, "job", "ops", "j-1"), false},
		{"no team", "bob", act(2, "job", "", "j-1"), false},
		{"a team that is not there", "bob", act(2, "job", "ghost", "j-1"), false},
		{"a name that begins otherwise", "bob", act(2, "job", "lab", "k-1"), false},
		{"no name", "bob", act(2, "job", "lab", ""), false},

		{"the first of several grants", "cy", act(1, "tag", "lab", "t"), true},
		{"the second of several grants", "cy", act(3, "job", "ops", "j-9"), true},
		{"the second of several grants, to give", "cy", act(5, "job", "ops", "j-9"), true},
		{"the verb of one and the team of another", "cy", act(1, "job", "ops", "j-9"), false},
		{"the verb of one and the kind of another", "cy", act(3, "tag", "lab", "j-9"), false},
		{"the verb of one and the name of another", "cy", act(3, "job", "lab", "x"), false},

		{"a rule of a kind", "dan", act(4, "berth", "ops", "x"), true},
		{"a rule of another kind", "dan", act(4, "job", "ops", "x"), false},
		{"a kind that begins so", "dan", act(4, "berths", "ops", "x"), false},
		{"no kind", "dan", act(4, "", "ops", "x"), false},

		{"somebody without a grant", "eve", act(1, "job", "lab", "j-1"), false},
		{"nobody", "", act(1, "job", "lab", "j-1"), false},
		{"somebody whose name begins as one with grants", "an", act(1, "job", "lab", "j-1"), false},
		{"somebody whose name is longer than one with grants", "anna", act(1, "job", "lab", "j-1"), false},
		{"somebody in other letters", "Ann", act(1, "job", "lab", "j-1"), false},
	} {
		l, b := spread(pierLaw()), spread(pierBook())
		if got := impl.GateMay(l, b, c.who, c.act); got != c.want {
			t.Errorf("%s: %v", c.what, got)
		}
		if !same(whole(l), whole(spread(pierLaw()))) || !same(whole(b), whole(spread(pierBook()))) {
			t.Errorf("%s: an argument is changed", c.what)
		}
	}
}

func TestGateMayWhoGaveCountsNot(t *testing.T) {
	b := pierBook()
	b.Grants = b.Grants[1:]
	if impl.GateMay(pierLaw(), b, "ann", act(2, "job", "lab", "j-1")) {
		t.Error("who gave a right has it by that")
	}
	b.Grants = nil
	if impl.GateMay(pierLaw(), b, "bob", act(2, "job", "lab", "j-1")) {
		t.Error("a book without grants")
	}
}

func TestGateMayOfWhatIsNotOk(t *testing.T) {
	for what, l := range badLaws() {
		if impl.GateMay(l, impl.GateBook{Now: 1, Given: 1, Grants: pierBook().Grants[:1]}, "ann", act(1, "job", "dev", "x")) {
			t.Errorf("%s: allowed", what)
		}
	}
	for what, b := range badBooks() {
		if impl.GateMay(pierLaw(), b, "ann", act(1, "job", "dev", "x")) {
			t.Errorf("%s: allowed", what)
		}
	}
}

// badBooks are not ok by pierLaw, by one thing each; ann's grant is in all of them.
func badBooks() map[string]impl.GateBook {
	list := map[string]impl.GateBook{}
	for what, edit := range map[string]func(b book){
		"Now one too great":              func(b book) { b.Now = impl.GateMaxVersion + 1 },
		"Now below a version":            func(b book) { b.Now = 19 },
		"Tick below 0":                   func(b book) { shiftTicks(b, -6) },
		"Given above Now":                func(b book) { b.Given = 21 },
		"objects out of order":           func(b book) { b.Objects[0], b.Objects[1] = b.Objects[1], b.Objects[0] },
		"an object that does not fit":    func(b book) { b.Objects[0].Values[1] = "c" },
		"a link to nothing":              func(b book) { b.Objects[7].Values[1] = "j-9" },
		"one object too many":            func(b book) { manyNotes(b, impl.GateMaxObjects+1) },
		"grants out of order":            func(b book) { b.Grants[1], b.Grants[2] = b.Grants[2], b.Grants[1] },
		"a grant to nobody":              func(b book) { b.Grants[4].To = "" },
		"a grant's rule that is not ok":  func(b book) { b.Grants[4].Rule.Verbs = verbs(2, 1) },
		"a ledger whose sum is too much": func(b book) { b.Ledgers[0].Free++ },
		"a purse without a ledger":       func(b book) { b.Purses[0].Resource = "gold" },
		"a purse that is over":           func(b book) { b.Purses[0].Until = 4 },
	} {
		b := pierBook()
		edit(&b)
		list[what] = b
	}
	return list
}

// manyNotes are of ops, and weigh on no ledger.
func manyNotes(b book, n int) {
	for len(b.Objects) < n {
		b.Objects = append(b.Objects, object(1, "note", "x-"+strconv.Itoa(len(b.Objects)), "ops"))
	}
	inOrder(b)
}

func TestBadBooksAreNotOk(t *testing.T) {
	for what, b := range badBooks() {
		if bookIsOk(pierLaw(), b) {
			t.Errorf("%s: ok", what)
		}
	}
}

// askPart is a part of an ask: what is ok and what is not where a verb uses it, and what is something where no verb does.
type askPart struct {
	name      string
	ok, bad   []func(a *ask)
	something []func(a *ask)
}

func partOf[T any](name string, set func(a *ask, to T), ok, bad, something []T) askPart {
	each := func(list []T) []func(a *ask) {
		var edits []func(a *ask)
		for _, to := range list {
			edits = append(edits, func(a *ask) { set(a, to) })
		}
		return edits
	}
	return askPart{name, each(ok), each(bad), each(something)}
}

func rulePart() askPart {
	ok := slices.Collect(maps.Values(okRules()))
	ok = append(ok, ofKind("ghost", ofTeam("ghost", rule("", 1))))
	bad := slices.Collect(maps.Values(badRules()))
	bad = append(bad, impl.GateRule{}, rule("", 6), rule("", 1, 6))
	something := append(ruleList{rule("", 0), rule("", 1), {Kind: "job"}, {Team: "dev"}, {Prefix: "j"}}, ok...)
	return partOf("Rule", func(a *ask, r impl.GateRule) { a.Rule = r }, ok, bad, something)
}

var (
	okNames    = texts{"a", "0", "-", "j-1", letters(impl.GateMaxName)}
	wrongNames = texts{"", letters(impl.GateMaxName + 1), "J", "a_b", "a b", " a", "a\n", "a\x00", "\xff", "é", "{", "`", "/", ":"}
)

func askParts() []askPart {
	six := texts{"", "", "", "", "", ""}
	return []askPart{
		partOf("Kind", func(a *ask, text string) { a.Kind = text }, texts{"job"}, texts{"", "ship", "Job", "jo", "jobs", letters(16)}, texts{"job", "note", "ship", "Job"}),
		partOf("Name", func(a *ask, text string) { a.Name = text }, okNames, wrongNames, texts{"j-1", "J"}),
		partOf("Team", func(a *ask, text string) { a.Team = text }, texts{"dev", "lab", "ops", "yard"}, texts{"", "ghost", "Dev", "de", "devs"}, texts{"dev", "ghost"}),
		partOf("Values", func(a *ask, list texts) { a.Values = list },
			[]texts{six, {"x", "\xff", "", "J", letters(1000), "-1"}},
			[]texts{nil, {}, six[:1], six[:5], append(texts{""}, six...), append(six, six...)},
			[]texts{six[:1], six, {"x"}}),
		partOf("Holds", func(a *ask, list texts) { a.Holds = list },
			[]texts{nil, {}, {"a"}, {"-", "0", "a"}, {letters(impl.GateMaxName)}, {"a", "aa", "b"}},
			[]texts{{"a", "b", "c", "d"}, {"b", "a"}, {"a", "a"}, {"a", "c", "b"}, {""}, {"", "a"}, {"A"}, {"a", letters(impl.GateMaxName + 1)}},
			[]texts{{"a"}, {""}, {"A"}}),
		partOf("Seen", func(a *ask, number int) { a.Seen = number }, []int{0, 1, impl.GateMaxVersion, impl.GateMaxVersion + 1, math.MaxInt}, []int{-1, math.MinInt}, []int{1, -1}),
		partOf("Hold", func(a *ask, text string) { a.Hold = text }, okNames, wrongNames, texts{"clean", "A"}),
		partOf("To", func(a *ask, text string) { a.To = text }, okNames, wrongNames, texts{"bob", "A"}),
		rulePart(),
		partOf("Number", func(a *ask, number int) { a.Number = number }, []int{1, 2, impl.GateMaxVersion + 1, math.MaxInt}, []int{0, -1, math.MinInt}, []int{1, -1}),
	}
}

// okAsks has an ask of each verb, and the parts that the verb uses.
func okAsks() []struct {
	ask  ask
	uses texts
} {
	return []struct {
		ask  ask
		uses texts
	}{
		{holding(toMake("job", "j-9", "lab", "", "", "", "", "", ""), "clean"), texts{"Kind", "Name", "Team", "Values", "Holds"}},
		{seen(7, toChange("job", "j-1", "", "", "", "", "", "")), texts{"Kind", "Name", "Values", "Seen"}},
		{seen(7, toEnd("job", "j-1")), texts{"Kind", "Name", "Seen"}},
		{toLetGo("job", "j-1", "clean"), texts{"Kind", "Name", "Hold"}},
		{toGive("bob", rule("", 1)), texts{"To", "Rule"}},
		{toTake(3), texts{"Number"}},
	}
}

func checkAsk(t *testing.T, what string, l impl.GateLaw, a ask, want bool) {
	t.Helper()
	l, a = spread(l), spread(a)
	lawAhead, askAhead := whole(l), whole(a)
	if got := impl.GateAskOk(l, a); got != want {
		t.Errorf("%s: ok is %v of %+v", what, got, a)
	}
	if !same(whole(l), lawAhead) || !same(whole(a), askAhead) {
		t.Errorf("%s: an argument is changed", what)
	}
}

func TestGateAskOk(t *testing.T) {
	for _, c := range okAsks() {
		checkAsk(t, "as it is", pierLaw(), c.ask, true)
		for _, part := range askParts() {
			edited := func(edits []func(a *ask), want bool) {
				for _, edit := range edits {
					a := spread(c.ask)
					edit(&a)
					checkAsk(t, part.name, pierLaw(), a, want)
				}
			}
			if slices.Contains(c.uses, part.name) {
				edited(part.ok, true)
				edited(part.bad, false)
			} else {
				edited(part.something, false)
			}
		}
	}
}

func TestGateAskOkWho(t *testing.T) {
	for _, c := range okAsks() {
		for _, who := range okNames {
			checkAsk(t, "Who", pierLaw(), asks(who, c.ask), true)
		}
		for _, who := range wrongNames {
			checkAsk(t, "Who", pierLaw(), asks(who, c.ask), false)
		}
	}
}

func TestGateAskOkVerb(t *testing.T) {
	checkAsk(t, "nothing", pierLaw(), ask{}, false)
	checkAsk(t, "Who alone", pierLaw(), ask{Who: "ann"}, false)
	for _, c := range okAsks() {
		for _, verb := range []int{math.MinInt, -1, 0, 1, 2, 3, 4, 5, 6, 7, 255, math.MaxInt} {
			a := spread(c.ask)
			a.Verb = verb
			checkAsk(t, "Verb", pierLaw(), a, verb == c.ask.Verb)
			checkAsk(t, "Verb alone", pierLaw(), ask{Who: "ann", Verb: verb}, false)
		}
	}
}

func TestGateAskOkByTheKind(t *testing.T) {
	for _, c := range []struct {
		what string
		ask  ask
		want bool
	}{
		{"a kind without fields", toMake("note", "n", "dev"), true},
		{"a kind without fields, and a list that is not nil", toMake("note", "n", "dev", texts{}...), true},
		{"a kind without fields, and a value", toMake("note", "n", "dev", ""), false},
		{"a change of a kind without fields", toChange("note", "n"), true},
		{"a change of a kind without fields, and a value", toChange("note", "n", ""), false},
		{"a kind of three", toMake("berth", "b", "ops", "", "", ""), true},
		{"a kind of three, and two values", toMake("berth", "b", "ops", "", ""), false},
		{"a kind of three, and six values", toMake("berth", "b", "ops", "", "", "", "", "", ""), false},
		{"a kind of two, the last one", toChange("tag", "t", "", ""), true},
		{"no kind, and no values", toMake("", "n", "dev"), false},
		{"a kind that is not there, and no values", toMake("ship", "n", "dev"), false},
		{"a change of a kind that is not there", toChange("ship", "n"), false},
		{"the end of a kind without fields", toEnd("note", "n"), true},
		{"a hold of a kind without fields", toLetGo("note", "n", "h"), true},
		{"Seen 0", toEnd("job", "j"), true},
	} {
		checkAsk(t, c.what, pierLaw(), c.ask, c.want)
	}
}

func TestGateAskOkEmptyListsAreNothing(t *testing.T) {
	for _, c := range okAsks() {
		a := c.ask
		if a.Values == nil {
			a.Values = []string{}
		}
		if a.Holds == nil {
			a.Holds = make([]string, 0, 4)
		}
		if a.Rule.Verbs == nil {
			a.Rule.Verbs = []int{}
		}
		checkAsk(t, "lists that are not nil", pierLaw(), a, true)
	}
}

func TestGateAskOkLaw(t *testing.T) {
	six := texts{"", "", "", "", "", ""}
	for what, l := range badLaws() {
		for _, a := range []ask{toMake("job", "j", "dev", six...), toChange("job", "j", six...), toEnd("job", "j"), toLetGo("job", "j", "h"), toGive("bob", rule("", 1)), toTake(1)} {
			checkAsk(t, what, fleetLaw(), a, true)
			checkAsk(t, what, l, a, false)
		}
	}
	checkAsk(t, "a law of nothing, and a gift", impl.GateLaw{}, toGive("bob", rule("", 1)), true)
	checkAsk(t, "a law of nothing, and a take", impl.GateLaw{}, toTake(1), true)
	checkAsk(t, "a law of nothing, and an end", impl.GateLaw{}, toEnd("job", "j"), false)
	checkAsk(t, "a law without teams", impl.GateLaw{Shapes: pierLaw().Shapes}, toMake("note", "n", "dev"), false)
	checkAsk(t, "a law without teams, and a change", impl.GateLaw{Shapes: pierLaw().Shapes}, toChange("note", "n"), true)
}
