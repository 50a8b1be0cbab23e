package tests

import (
	"math"
	"slices"
	"strconv"
	"testing"

	"loop.example/wharfdesk/impl"
)

type (
	world = *impl.GateWorld
	door  = impl.GateDoor
	event = impl.GateEvent
)

// The places of pierWorld's doors: two that are Up, and one that is not.
const atD1, atD2, atD3 = 0, 1, 2

// pierView is pierBook as it was one version ago, when j-2 leaned on nothing.
func pierView() impl.GateBook {
	b := pierBook()
	b.Now = 19
	b.Objects[atJ2] = object(5, "job", "j-2", "yard", "3", "3", "small", "b-3", "j-1", "")
	return b
}

// oldView is what pierBook began with.
func oldView() impl.GateBook {
	return impl.GateBook{
		Now: 3, Given: 3,
		Objects: []impl.GateObject{
			object(1, "berth", "b-1", "dev", "16", "a", ""),
			object(2, "berth", "b-2", "ops", "8", "b", "8"),
		},
		Grants: pierBook().Grants[:2],
	}
}

// The slips of pierWorld's doors.
var (
	makesJ9 = slip{Door: "d-1", Ask: holding(toMake("job", "j-9", "lab", "5", "2", "small", "b-1", "j-1", ""), "clean"), Given: 9, Wants: []want{onJ9, onB1, onJ1}}
	endsN1  = slip{Door: "d-1", Ask: seen(8, toEnd("note", "n-1")), Given: 9, Wants: []want{onN1}}
	endsJ2  = slip{Door: "d-1", Ask: toEnd("job", "j-2"), Given: 9, Wants: []want{on("job", "j-2", 5)}}
	gives   = slip{Door: "d-3", Ask: toGive("bob", rule("b", 1, 5)), Given: 9}
)

// pierWorld is ok by pierLaw.
func pierWorld() impl.GateWorld {
	return impl.GateWorld{Book: pierBook(), Doors: []door{
		{Name: "d-1", Up: true, View: pierView(), Slips: spread([]slip{makesJ9, endsN1, endsJ2})},
		{Name: "d-2", View: oldView()},
		{Name: "d-3", Up: true, View: pierBook(), Slips: spread([]slip{gives})},
	}}
}

func checkWorldOk(t *testing.T, what string, l impl.GateLaw, w impl.GateWorld, want bool) {
	t.Helper()
	l, w = spread(l), spread(w)
	lawAhead, worldAhead := whole(l), whole(w)
	if got := impl.GateWorldOk(l, w); got != want || worldIsOk(l, w) != want {
		t.Errorf("%s: ok is %v", what, got)
	}
	next, said := impl.GateStep(l, w, event{Kind: impl.GateLook, Door: -1})
	if want && (said != refused(13, 0) || !same(next, w)) || !want && (said != refused(1, 0) || !same(next, impl.GateWorld{})) {
		t.Errorf("%s: a step is told %+v", what, said)
	}
	if got := impl.GateSafe(l, w.Book, w); got != want {
		t.Errorf("%s: safe, by its own book, is %v", what, got)
	}
	if !same(whole(l), lawAhead) || !same(whole(w), worldAhead) {
		t.Errorf("%s: an argument is changed", what)
	}
}

// worldEdit is what one thing makes of pierWorld.
type worldEdit struct {
	what string
	ok   bool
	edit func(w world)
}

func checkWorldEdits(t *testing.T, list []worldEdit) {
	t.Helper()
	for _, c := range list {
		w := pierWorld()
		c.edit(&w)
		checkWorldOk(t, c.what, pierLaw(), w, c.ok)
	}
}

func TestGateWorldOk(t *testing.T) {
	checkWorldOk(t, "nothing, by a law of nothing", impl.GateLaw{}, impl.GateWorld{}, true)
	checkWorldOk(t, "nothing", pierLaw(), impl.GateWorld{}, true)
	checkWorldOk(t, "by another law", fleetLaw(), pierWorld(), false)
	checkWorldEdits(t, []worldEdit{
		{"as it is", true, func(w world) {}},
		{"no doors", true, func(w world) { w.Doors = nil }},
		{"doors that are no more than an empty list", true, func(w world) { w.Doors = []door{} }},
		{"a book of nothing, and no doors", true, func(w world) { *w = impl.GateWorld{} }},
		{"a book of nothing, and doors", false, func(w world) { w.Book = impl.GateBook{} }},
		{"a book of nothing, and doors that see nothing", true, func(w world) {
			*w = impl.GateWorld{Doors: []door{{Name: "a", Up: true}, {Name: "b"}}}
		}},
	})
	for what, l := range badLaws() {
		checkWorldOk(t, what, l, impl.GateWorld{}, false)
		checkWorldOk(t, what+", with a door", l, impl.GateWorld{Doors: []door{{Name: "d", Up: true}}}, false)
	}
}

func TestGateWorldOkBooks(t *testing.T) {
	for what, b := range badBooks() {
		checkWorldEdits(t, []worldEdit{
			{"the Book: " + what, false, func(w world) { w.Book = b }},
			{"the Book, without doors: " + what, false, func(w world) { w.Book, w.Doors = b, nil }},
		})
		for place := range pierWorld().Doors {
			checkWorldEdits(t, []worldEdit{
				{"the View of door " + strconv.Itoa(place) + ": " + what, false, func(w world) {
					w.Book.Now = impl.GateMaxVersion
					w.Doors[place].View = b
				}},
			})
		}
	}
	for place := range pierWorld().Doors {
		view := func(edits ...func(b book)) func(w world) {
			return func(w world) {
				w.Doors[place].View = pierBook()
				each(edits...)(&w.Doors[place].View)
			}
		}
		at := "door " + strconv.Itoa(place) + ": "
		checkWorldEdits(t, []worldEdit{
			{at + "the View is the Book", true, view()},
			{at + "the View is nothing", true, func(w world) { w.Doors[place].View = impl.GateBook{} }},
			{at + "a Now of one less", true, func(w world) { w.Doors[place].View = pierView() }},
			{at + "a Now of one more", false, view(func(b book) { b.Now = 21 })},
			{at + "a Now of one more, of the Book too", true, func(w world) { view(func(b book) { b.Now = 21 })(w); w.Book.Now = 21 }},
			{at + "the last Now that there may be", false, view(atLast)},
			{at + "the last Now that there may be, of the Book too", true, func(w world) { view(atLast)(w); atLast(&w.Book) }},
			{at + "a Now of one less than the Book's last one", true, func(w world) { view(oneLeft)(w); atLast(&w.Book) }},
			{at + "a Now of one more than the Book's last but one", false, func(w world) { view(atLast)(w); oneLeft(&w.Book) }},
			{at + "a Now below 0", false, func(w world) { w.Doors[place].View = impl.GateBook{Now: -1} }},
			{at + "a later Tick than the Book's", true, view(func(b book) { shiftTicks(b, 9) })},
			{at + "a later Given than the Book's", true, view(func(b book) { b.Given = 20 })},
			{at + "grants that the Book has not", true, view(grantsUpTo(impl.GateMaxGrants), func(b book) { b.Now, b.Given, b.Grants = 20, 20, b.Grants[:11] })},
			{at + "objects that the Book has not", true, view(objectsUpTo(impl.GateMaxObjects))},
			{at + "ledgers that the Book has not", true, func(w world) { noLedgers(&w.Book) }},
		})
	}
}

// manyDoors are Up, and see nothing.
func manyDoors(n int) func(w world) {
	return func(w world) {
		w.Doors = nil
		for i := range n {
			w.Doors = append(w.Doors, door{Name: "d-" + strconv.Itoa(100+i), Up: true})
		}
	}
}

func TestGateWorldOkDoors(t *testing.T) {
	for n := range impl.GateMaxDoors + 3 {
		checkWorldEdits(t, []worldEdit{{strconv.Itoa(n) + " doors", n <= impl.GateMaxDoors, manyDoors(n)}})
	}
	named := func(names ...string) func(w world) {
		return func(w world) {
			manyDoors(len(names))(w)
			for i, name := range names {
				w.Doors[i].Name = name
			}
		}
	}
	checkWorldEdits(t, []worldEdit{
		{"the first two out of order", false, named("b", "a", "c")},
		{"the last two out of order", false, named("a", "c", "b")},
		{"all out of order", false, named("d", "c", "b", "a")},
		{"the first and the last out of order", false, named("d", "b", "c", "a")},
		{"two of one Name", false, named("a", "a")},
		{"two of one Name, the last ones", false, named("a", "b", "b")},
		{"two of one Name, apart", false, named("a", "b", "a")},
		{"a Name that begins another one", true, named("a", "aa", "ab")},
		{"a Name behind one that it begins", false, named("aa", "a")},
		{"bytes in order", true, named("-", "0", "9", "a")},
		{"names that somebody and a team have", true, named("ann", "dev")},
		{"two without a Name", false, named("", "")},
		{"a door of nothing", false, func(w world) { w.Doors = []door{{}} }},
	})
	for _, name := range okNames {
		checkWorldEdits(t, []worldEdit{{"a door " + strconv.Quote(name), true, named(name)}})
	}
	for _, name := range wrongNames {
		checkWorldEdits(t, []worldEdit{
			{"a door " + strconv.Quote(name), false, named(name)},
			{"a door that is not Up " + strconv.Quote(name), false, func(w world) { named(name)(w); w.Doors[0].Up = false }},
		})
	}
	checkWorldEdits(t, []worldEdit{{"the last of all is no name", false, named("a", "b", "c", "d_")}})
}

func TestGateWorldOkSlips(t *testing.T) {
	slips := func(place int, list ...slip) func(w world) {
		return func(w world) { w.Doors[place].Slips = list }
	}
	for n := range impl.GateMaxSlips + 3 {
		checkWorldEdits(t, []worldEdit{
			{strconv.Itoa(n) + " slips", n <= impl.GateMaxSlips, slips(atD1, slices.Repeat([]slip{endsN1}, n)...)},
			{strconv.Itoa(n) + " slips of the last door", n <= impl.GateMaxSlips, slips(atD3, slices.Repeat([]slip{gives}, n)...)},
			{strconv.Itoa(n) + " slips of a door that is not Up", n == 0, func(w world) {
				w.Doors[atD1].Up = false
				slips(atD1, slices.Repeat([]slip{endsN1}, n)...)(w)
			}},
		})
	}
	turned := func(edit func(s *slip)) slip {
		s := spread(endsN1)
		edit(&s)
		return s
	}
	for what, wrong := range map[string]slip{
		"nothing":                      {},
		"nothing but the door":         {Door: "d-1"},
		"another door's Name":          turned(func(s *slip) { s.Door = "d-2" }),
		"the Name of no door":          turned(func(s *slip) { s.Door = "d-9" }),
		"the beginning of the Name":    turned(func(s *slip) { s.Door = "d-" }),
		"no Name":                      turned(func(s *slip) { s.Door = "" }),
		"no name":                      turned(func(s *slip) { s.Door = "D-1" }),
		"an ask that is not ok":        turned(func(s *slip) { s.Ask.Number = 1 }),
		"an ask of nobody":             turned(func(s *slip) { s.Ask.Who = "" }),
		"an ask of a kind that is not": turned(func(s *slip) { s.Ask.Kind = "ship" }),
		"Given below 0":                turned(func(s *slip) { s.Given = -1 }),
		"one want too many":            turned(func(s *slip) { s.Wants = slices.Repeat([]want{onN1}, impl.GateMaxWants+1) }),
		"a want that is not ok":        turned(func(s *slip) { s.Wants = []want{onN1, on("note", "n-1", -1)} }),
	} {
		checkWorldEdits(t, []worldEdit{
			{"a slip alone: " + what, false, slips(atD1, wrong)},
			{"the first slip: " + what, false, slips(atD1, wrong, endsN1)},
			{"the second slip: " + what, false, slips(atD1, endsN1, wrong, endsJ2)},
			{"the last slip: " + what, false, slips(atD1, endsN1, endsN1, endsN1, endsN1, endsN1, wrong)},
		})
	}
	for what, s := range map[string]slip{
		"what is not as it was seen":     turned(func(s *slip) { s.Wants = []want{on("note", "n-1", 99), on("ship", "s", 0)} }),
		"a Given that the Book has not":  turned(func(s *slip) { s.Given = math.MaxInt }),
		"no wants":                       turned(func(s *slip) { s.Wants = nil }),
		"as many wants as there may be":  turned(func(s *slip) { s.Wants = slices.Repeat([]want{onN1}, impl.GateMaxWants) }),
		"what they may not":              turned(func(s *slip) { s.Ask.Who = "eve" }),
		"what the view knows nothing of": turned(func(s *slip) { s.Ask.Name = "n-9" }),
	} {
		checkWorldEdits(t, []worldEdit{
			{"a slip: " + what, true, slips(atD1, s)},
			{"two slips: " + what, true, slips(atD1, s, s)},
		})
	}
	checkWorldEdits(t, []worldEdit{
		{"the slip of one door with another", false, func(w world) { w.Doors[atD1].Slips = append(w.Doors[atD1].Slips, gives) }},
		{"no door is Up", true, func(w world) {
			for i := range w.Doors {
				w.Doors[i].Up, w.Doors[i].Slips = false, nil
			}
		}},
		{"all doors are Up", true, func(w world) { w.Doors[atD2].Up = true }},
		{"a door that is not Up, with a list that is not nil", true, slips(atD2, []slip{}...)},
		{"a door that is not Up, with a slip of its own", false, slips(atD2, slip{Door: "d-2", Ask: toTake(3), Given: 3})},
		{"the last door is not Up, with its slip", false, func(w world) { w.Doors[atD3].Up = false }},
		{"the last door is not Up", true, func(w world) { w.Doors[atD3].Up, w.Doors[atD3].Slips = false, nil }},
		{"the slip of another door, which is not Up", false, slips(atD3, slip{Door: "d-2", Ask: toTake(3), Given: 3})},
	})
}

func TestGateWorldConstants(t *testing.T) {
	if impl.GateMaxDoors != 4 || impl.GateMaxSlips != 6 {
		t.Error("limits")
	}
	kinds := []int{impl.GateLook, impl.GateAsks, impl.GateCommits, impl.GateLoses, impl.GateDraws, impl.GateBacks, impl.GateTicks, impl.GateDies, impl.GateRises, impl.GateSweeps, impl.GateBinds}
	if !slices.Equal(kinds, []int{1, 2, 3, 4, 5, 6, 7, 8, 9, 10, 11}) {
		t.Error("kinds of events")
	}
}
