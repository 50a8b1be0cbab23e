package tests

import (
	"math"
	"slices"
	"testing"

	"loop.example/wharfdesk/impl"
)

// purseCall is one of the functions of purses, with what it is asked for.
type purseCall struct {
	what string
	call func(l impl.GateLaw, b impl.GateBook) (impl.GateBook, int)
}

func draw(door, team, resource string, amount int) purseCall {
	return purseCall{"GateDraw", func(l impl.GateLaw, b impl.GateBook) (impl.GateBook, int) {
		return impl.GateDraw(l, b, door, team, resource, amount)
	}}
}

func back(door, team, resource string) purseCall {
	return purseCall{"GateBack", func(l impl.GateLaw, b impl.GateBook) (impl.GateBook, int) {
		return impl.GateBack(l, b, door, team, resource)
	}}
}

func tick() purseCall {
	return purseCall{"GateTick", impl.GateTick}
}

func bound(team, resource string, most int) purseCall {
	return purseCall{"GateBound", func(l impl.GateLaw, b impl.GateBook) (impl.GateBook, int) {
		return impl.GateBound(l, b, team, resource, most)
	}}
}

// purseCase says what a call makes of fleetBook, turned by edit ahead of it.
type purseCase struct {
	what string
	call purseCall
	code int
	edit func(b book)
	// want turns the book to what it is behind the call, where the code is 0.
	want func(b book)
}

func checkCalls(t *testing.T, list []purseCase) {
	t.Helper()
	for _, c := range list {
		l, b, want := fleetLaw(), fleetBook(), fleetBook()
		if c.edit != nil {
			c.edit(&b)
			c.edit(&want)
		}
		if !impl.GateBookOk(l, b) {
			t.Errorf("%s: the book was not ok", c.what)
		}
		if c.want != nil {
			c.want(&want)
		}
		if (c.code == 0) == same(want, b) {
			t.Errorf("%s: a case that says nothing", c.what)
		}
		l, b = spread(l), spread(b)
		lawAhead, bookAhead := whole(l), whole(b)
		got, code := c.call.call(l, b)
		if code != c.code || !same(got, want) {
			t.Errorf("%s: %s is %d and %+v, not %d and %+v", c.what, c.call.what, code, got, c.code, want)
		}
		if !impl.GateBookOk(l, got) {
			t.Errorf("%s: the book behind it is not ok", c.what)
		}
		if !same(whole(l), lawAhead) || !same(whole(b), bookAhead) {
			t.Errorf("%s: an argument is changed", c.what)
		}
		newMemory(t, c.what, got, l, b)
	}
}

func takeOut(b book, places ...int) {
	for _, place := range slices.Backward(places) {
		b.Purses = slices.Delete(b.Purses, place, place+1)
	}
}

func TestGateDraw(t *testing.T) {
	newPurse := func(place int, door, team, resource string, amount int) func(b book) {
		return func(b book) {
			b.Purses = slices.Insert(b.Purses, place, impl.GatePurse{Door: door, Team: team, Resource: resource, Amount: amount, Until: b.Tick + 10})
		}
	}
	free := func(place, by int, then func(b book)) func(b book) {
		return func(b book) {
			b.Ledgers[place].Free += by
			then(b)
		}
	}
	more := func(place, by int) func(b book) {
		return func(b book) {
			b.Purses[place].Amount += by
			b.Purses[place].Until = b.Tick + 10
		}
	}
	full := func(b book) { manyPurses(b, impl.GateMaxPurses) }
	most := func(b book) {
		b.Ledgers = append(b.Ledgers, impl.GateLedger{Team: "yard", Resource: "gold", Most: impl.GateMaxNumber, Free: impl.GateMaxNumber})
	}
	last := func(b book) { shiftTicks(b, impl.GateMaxNumber-b.Tick) }
	checkCalls(t, []purseCase{
		{"a new purse, ahead of all", draw("a", "dev", "need", 6), 0, nil, free(1, -6, newPurse(0, "a", "dev", "need", 6))},
		{"a new purse, between", draw("d-10", "dev", "need", 1), 0, nil, free(1, -1, newPurse(2, "d-10", "dev", "need", 1))},
		{"a new purse of a door that has one", draw("d-2", "dev", "job", 1), 0, nil, free(0, -1, newPurse(2, "d-2", "dev", "job", 1))},
		{"a new purse, behind all", draw("z", "dev", "job", 2), 0, nil, free(0, -2, newPurse(4, "z", "dev", "job", 2))},
		{"the first purse of a book", draw("z", "dev", "job", 1), 0, func(b book) { b.Purses = nil; settle(fleetLaw(), b) }, free(0, -1, newPurse(0, "z", "dev", "job", 1))},
		{"into a purse", draw("d-2", "dev", "need", 2), 0, nil, free(1, -2, more(2, 2))},
		{"into a purse that would last no longer", draw("d-1", "dev", "job", 1), 0, nil, free(0, -1, more(0, 1))},
		{"into a purse that lasts as long", draw("d-1", "dev", "need", 1), 0, nil, free(1, -1, more(1, 1))},
		{"all that is free", draw("d-1", "dev", "need", 10), 0, nil, free(1, -10, more(1, 10))},
		{"all that is free, a new purse", draw("e", "dev", "need", 10), 0, nil, free(1, -10, newPurse(4, "e", "dev", "need", 10))},
		{"a Door of all its bytes", draw(letters(impl.GateMaxName), "dev", "need", 1), 0, nil, free(1, -1, newPurse(0, letters(impl.GateMaxName), "dev", "need", 1))},
		{"as much as there may be", draw("e", "yard", "gold", impl.GateMaxNumber), 0, most, free(4, -impl.GateMaxNumber, newPurse(4, "e", "yard", "gold", impl.GateMaxNumber))},
		{"the last purse that there may be", draw("z", "dev", "need", 1), 0, func(b book) { manyPurses(b, impl.GateMaxPurses-1) }, free(1, -1, newPurse(23, "z", "dev", "need", 1))},
		{"into one of all purses that there may be", draw("d-2", "dev", "need", 1), 0, full, free(1, -1, more(2, 1))},
		{"at the last tick", draw("z", "dev", "need", 1), 0, last, free(1, -1, newPurse(4, "z", "dev", "need", 1))},

		{"the empty door", draw("", "dev", "need", 1), 2, nil, nil},
		{"a door that is no name", draw("D-1", "dev", "need", 1), 2, nil, nil},
		{"a door too long", draw(letters(impl.GateMaxName+1), "dev", "need", 1), 2, nil, nil},
		{"no ledger of the resource", draw("d-1", "dev", "room", 1), 2, nil, nil},
		{"no ledger of the team", draw("d-1", "yard", "need", 1), 2, nil, nil},
		{"no ledger of the two", draw("d-2", "lab", "room", 1), 2, nil, nil},
		{"no such team", draw("d-1", "ghost", "need", 1), 2, nil, nil},
		{"nothing of the two", draw("d-1", "", "", 1), 2, nil, nil},
		{"the two the other way", draw("d-1", "need", "dev", 1), 2, nil, nil},
		{"no ledgers", draw("d-1", "dev", "need", 1), 2, func(b book) { b.Ledgers, b.Purses = nil, nil }, nil},
		{"the amount 0", draw("d-1", "dev", "need", 0), 2, nil, nil},
		{"an amount below 0", draw("d-1", "dev", "need", -1), 2, nil, nil},
		{"the least amount", draw("d-1", "dev", "need", math.MinInt), 2, nil, nil},
		{"an amount one too great", draw("d-1", "yard", "gold", impl.GateMaxNumber+1), 2, most, nil},
		{"the greatest amount", draw("d-1", "dev", "need", math.MaxInt), 2, nil, nil},

		{"Free is one less", draw("d-1", "dev", "need", 11), 3, nil, nil},
		{"Free is one less, a new purse", draw("e", "dev", "need", 11), 3, nil, nil},
		{"nothing is free", draw("d-1", "lab", "need", 1), 3, nil, nil},
		{"nothing is free, and as much as there may be is asked for", draw("d-1", "lab", "need", impl.GateMaxNumber), 3, nil, nil},

		{"one purse too many", draw("z", "dev", "need", 1), 4, full, nil},
		{"one purse too many, of a door that has some", draw("d-1", "lab", "need", 1), 4, func(b book) { full(b); b.Ledgers[2].Most++; b.Ledgers[2].Free++ }, nil},
		{"one purse too many, all that is free", draw("z", "dev", "need", 10), 4, full, nil},

		{"2 ahead of 3: the door", draw("", "dev", "need", 11), 2, nil, nil},
		{"2 ahead of 3: the amount", draw("d-1", "dev", "need", impl.GateMaxNumber+1), 2, nil, nil},
		{"2 ahead of 4: the door", draw("Z", "dev", "need", 1), 2, full, nil},
		{"2 ahead of 4: the ledger", draw("z", "dev", "room", 1), 2, full, nil},
		{"2 ahead of 4: the amount", draw("z", "dev", "need", 0), 2, full, nil},
		{"3 ahead of 4", draw("z", "dev", "need", 11), 3, full, nil},
	})
}

func TestGateBack(t *testing.T) {
	checkCalls(t, []purseCase{
		{"the first", back("d-1", "dev", "job"), 0, nil, func(b book) { takeOut(b, 0); b.Ledgers[0].Free = 3 }},
		{"one of two of a ledger", back("d-1", "dev", "need"), 0, nil, func(b book) { takeOut(b, 1); b.Ledgers[1].Free = 14 }},
		{"the other of two of a ledger", back("d-2", "dev", "need"), 0, nil, func(b book) { takeOut(b, 2); b.Ledgers[1].Free = 13 }},
		{"the last", back("d-2", "ops", "room"), 0, nil, func(b book) { takeOut(b, 3); b.Ledgers[3].Free = 12 }},
		{"the only one", back("d-2", "ops", "room"), 0, func(b book) { takeOut(b, 0, 1, 2); settle(fleetLaw(), b) }, func(b book) { takeOut(b, 0); b.Ledgers[3].Free = 12 }},
		{"at the last tick", back("d-1", "dev", "job"), 0, func(b book) { shiftTicks(b, impl.GateMaxNumber-b.Tick) }, func(b book) { takeOut(b, 0); b.Ledgers[0].Free = 3 }},

		{"another door", back("d-3", "dev", "need"), 2, nil, nil},
		{"another door's of that resource", back("d-1", "ops", "room"), 2, nil, nil},
		{"another door's of that team", back("d-2", "dev", "job"), 2, nil, nil},
		{"another team", back("d-1", "lab", "need"), 2, nil, nil},
		{"the beginning of a door", back("d-", "dev", "need"), 2, nil, nil},
		{"no names", back("D", "\x00", " "), 2, nil, nil},
		{"nothing", back("", "", ""), 2, nil, nil},
		{"without purses", back("d-1", "dev", "need"), 2, func(b book) { b.Purses = nil; settle(fleetLaw(), b) }, nil},
		{"in an empty book", back("d-1", "dev", "need"), 2, func(b book) { *b = impl.GateBook{} }, nil},
	})
}

func TestGateTick(t *testing.T) {
	checkCalls(t, []purseCase{
		{"one purse is over", tick(), 0, nil, func(b book) { b.Tick = 6; takeOut(b, 0); b.Ledgers[0].Free = 3 }},
		{"at the tick at which Until is met", tick(), 0, func(b book) { b.Purses[0].Until = 6 }, func(b book) { b.Tick = 6 }},
		{"all purses are over", tick(), 0, func(b book) {
			for i := range b.Purses {
				b.Purses[i].Until = 5
			}
		}, func(b book) {
			b.Tick, b.Purses = 6, nil
			b.Ledgers[0].Free, b.Ledgers[1].Free, b.Ledgers[3].Free = 3, 17, 12
		}},
		{"two of one ledger are over, of those between", tick(), 0, func(b book) {
			b.Purses[0].Until, b.Purses[1].Until, b.Purses[2].Until = 6, 5, 5
		}, func(b book) { b.Tick = 6; takeOut(b, 1, 2); b.Ledgers[1].Free = 17 }},
		{"the first and the last are over", tick(), 0, func(b book) { b.Purses[3].Until = 5 }, func(b book) {
			b.Tick = 6
			takeOut(b, 0, 3)
			b.Ledgers[0].Free, b.Ledgers[3].Free = 3, 12
		}},
		{"without purses", tick(), 0, func(b book) { b.Purses = nil; settle(fleetLaw(), b) }, func(b book) { b.Tick = 6 }},
		{"from the tick 0", tick(), 0, func(b book) { *b = impl.GateBook{} }, func(b book) { b.Tick = 1 }},
		{"to the last tick", tick(), 0, func(b book) { shiftTicks(b, impl.GateMaxNumber-1-b.Tick) }, func(b book) {
			b.Tick = impl.GateMaxNumber
			takeOut(b, 0)
			b.Ledgers[0].Free = 3
		}},

		{"behind the last tick", tick(), 2, func(b book) { shiftTicks(b, impl.GateMaxNumber-b.Tick) }, nil},
		{"behind the last tick, without purses", tick(), 2, func(b book) { *b = impl.GateBook{Tick: impl.GateMaxNumber} }, nil},
	})
}

func TestGateBound(t *testing.T) {
	set := func(place, most, free int) func(b book) {
		return func(b book) { b.Ledgers[place].Most, b.Ledgers[place].Free = most, free }
	}
	newLedger := func(place int, team, resource string, most, free int) func(b book) {
		return func(b book) {
			b.Ledgers = slices.Insert(b.Ledgers, place, impl.GateLedger{Team: team, Resource: resource, Most: most, Free: free})
		}
	}
	full := func(b book) { manyLedgers(b, impl.GateMaxLedgers) }
	none := func(b book) { b.Ledgers, b.Purses = nil, nil }
	checkCalls(t, []purseCase{
		{"one more", bound("dev", "need", 31), 0, nil, set(1, 31, 11)},
		{"one less", bound("dev", "need", 29), 0, nil, set(1, 29, 9)},
		{"down to nothing free", bound("dev", "need", 20), 0, nil, set(1, 20, 0)},
		{"down to nothing free, without purses", bound("ops", "room", 8), 0, func(b book) { takeOut(b, 3); b.Ledgers[3].Free = 12 }, set(3, 8, 0)},
		{"as much as there may be", bound("dev", "need", impl.GateMaxNumber), 0, nil, set(1, impl.GateMaxNumber, impl.GateMaxNumber-20)},
		{"upwards where nothing was free", bound("lab", "need", 14), 0, nil, set(2, 14, 1)},
		{"one of all ledgers that there may be", bound("dev", "job", 9), 0, full, set(0, 9, 6)},
		{"down to 0", bound("yard", "x-4", 0), 0, full, set(4, 0, 0)},

		{"a new one, ahead of all", bound("dev", "berth", 9), 0, nil, newLedger(0, "dev", "berth", 9, 8)},
		{"a new one, between resources", bound("dev", "k", 7), 0, nil, newLedger(1, "dev", "k", 7, 7)},
		{"a new one, between teams", bound("dev", "room", 20), 0, nil, newLedger(2, "dev", "room", 20, 4)},
		{"a new one, ahead in its team", bound("lab", "job", 3), 0, nil, newLedger(2, "lab", "job", 3, 1)},
		{"a new one, behind all", bound("yard", "need", 6), 0, nil, newLedger(4, "yard", "need", 6, 1)},
		{"a new one with nothing free", bound("yard", "need", 5), 0, nil, newLedger(4, "yard", "need", 5, 0)},
		{"a new one of what nothing weighs", bound("yard", "gold", 0), 0, nil, newLedger(4, "yard", "gold", 0, 0)},
		{"a new one, as much as there may be", bound("ops", "need", impl.GateMaxNumber), 0, nil, newLedger(3, "ops", "need", impl.GateMaxNumber, impl.GateMaxNumber-1)},
		{"a new one of all its bytes", bound("dev", letters(impl.GateMaxName), 3), 0, nil, newLedger(0, "dev", letters(impl.GateMaxName), 3, 3)},
		{"the first ledger of a book", bound("dev", "need", 13), 0, none, newLedger(0, "dev", "need", 13, 0)},
		{"the last ledger that there may be", bound("ops", "need", 2), 0, func(b book) { manyLedgers(b, impl.GateMaxLedgers-1) }, newLedger(3, "ops", "need", 2, 1)},

		{"no such team", bound("ghost", "need", 1), 2, nil, nil},
		{"the empty team", bound("", "need", 1), 2, nil, nil},
		{"the beginning of a team", bound("de", "need", 99), 2, nil, nil},
		{"the empty resource", bound("dev", "", 1), 2, nil, nil},
		{"a resource that is no name", bound("dev", "Need", 1), 2, nil, nil},
		{"a resource too long", bound("dev", letters(impl.GateMaxName+1), 1), 2, nil, nil},
		{"the two the other way", bound("need", "dev", 1), 2, nil, nil},
		{"below 0", bound("dev", "gold", -1), 2, nil, nil},
		{"the least number", bound("dev", "need", math.MinInt), 2, nil, nil},
		{"one too great", bound("dev", "need", impl.GateMaxNumber+1), 2, nil, nil},
		{"one too great, a new one", bound("dev", "gold", impl.GateMaxNumber+1), 2, nil, nil},
		{"the greatest number", bound("dev", "need", math.MaxInt), 2, nil, nil},

		{"one further than nothing free", bound("dev", "need", 19), 3, nil, nil},
		{"below what is used", bound("dev", "need", 12), 3, nil, nil},
		{"down to 0, with purses", bound("dev", "job", 0), 3, nil, nil},
		{"nothing was free", bound("lab", "need", 12), 3, nil, nil},
		{"a new one, one below what is used", bound("yard", "need", 4), 3, nil, nil},
		{"a new one of 0, below what is used", bound("dev", "room", 0), 3, nil, nil},

		{"one ledger too many", bound("ops", "need", 2), 4, full, nil},
		{"one ledger too many, of what nothing weighs", bound("dev", "gold", 0), 4, full, nil},

		{"2 ahead of 3: below 0", bound("dev", "need", -1), 2, nil, nil},
		{"2 ahead of 4: the team", bound("ghost", "need", 2), 2, full, nil},
		{"2 ahead of 4: the resource", bound("ops", "Need", 2), 2, full, nil},
		{"2 ahead of 4: too great", bound("ops", "need", impl.GateMaxNumber+1), 2, full, nil},
		{"3 ahead of 4", bound("ops", "need", 0), 3, full, nil},
	})
}

// More is used than a bound may be: no ledger can be had of it.
func TestGateBoundOfTooMuch(t *testing.T) {
	l := lawOf(impl.GateField{Name: "a", Kind: impl.GateNumber, Most: impl.GateMaxNumber, Weighs: "oil"})
	l.Teams = teamList{{Name: "t"}}
	b := impl.GateBook{Now: 1, Objects: []impl.GateObject{at(1, box("1000000")), at(1, box("1"))}}
	b.Objects[1].Name = "y"
	if got, code := impl.GateBound(l, b, "t", "oil", impl.GateMaxNumber); code != 3 || !same(got, b) {
		t.Errorf("%d, %+v", code, got)
	}
	b.Objects[1].Values[0] = "0"
	if got, code := impl.GateBound(l, b, "t", "oil", impl.GateMaxNumber); code != 0 || got.Ledgers[0] != (impl.GateLedger{Team: "t", Resource: "oil", Most: impl.GateMaxNumber}) {
		t.Errorf("%d, %+v", code, got)
	}
}

// Until goes by the last draw alone: the one behind it, not the first, and not the amount.
func TestGateDrawLastsFromTheLastDraw(t *testing.T) {
	l, b := fleetLaw(), fleetBook()
	b.Purses = nil
	settle(l, &b)
	until := func() int { return b.Purses[0].Until }
	do := func(call purseCall) {
		t.Helper()
		next, code := call.call(l, b)
		if code != 0 {
			t.Fatal(code)
		}
		b = next
	}
	do(draw("d", "dev", "need", 5))
	if until() != 15 {
		t.Error(until())
	}
	for range 10 {
		do(tick())
	}
	if b.Tick != 15 || until() != 15 || b.Purses[0].Amount != 5 {
		t.Error(b)
	}
	do(draw("d", "dev", "need", 1))
	if until() != 25 || b.Purses[0].Amount != 6 || b.Ledgers[1].Free != 11 {
		t.Error(b)
	}
	for range 10 {
		do(tick())
	}
	if len(b.Purses) != 1 {
		t.Error(b)
	}
	do(tick())
	if len(b.Purses) != 0 || b.Tick != 26 || b.Ledgers[1].Free != 17 {
		t.Error(b)
	}
}

// allPurseCalls have one of each function, for fleetBook, with each of its codes but 1.
func allPurseCalls() []purseCall {
	return []purseCall{
		draw("z", "dev", "need", 1), draw("d-1", "dev", "need", 1), draw("", "dev", "need", 1), draw("d-1", "dev", "need", 11),
		back("d-1", "dev", "need"), back("d-9", "dev", "need"),
		tick(),
		bound("dev", "need", 25), bound("dev", "gold", 25), bound("ghost", "need", 25), bound("dev", "need", 0),
	}
}

func TestGatePursesOfWhatIsNotOk(t *testing.T) {
	check := func(what string, l impl.GateLaw, b impl.GateBook) {
		t.Helper()
		for _, c := range allPurseCalls() {
			if got, code := c.call(l, b); code != 1 || !same(got, impl.GateBook{}) {
				t.Errorf("%s: %s is %d and %+v", what, c.what, code, got)
			}
		}
	}
	for what, l := range badLaws() {
		check(what, l, fleetBook())
		check(what+", an empty book", l, impl.GateBook{})
	}
	for what, edit := range map[string]func(b book){
		"Now":             func(b book) { b.Now = -1 },
		"Tick":            func(b book) { b.Tick = 4 },
		"Tick too great":  func(b book) { shiftTicks(b, impl.GateMaxNumber) },
		"Given":           func(b book) { b.Given = 6 },
		"an object":       func(b book) { b.Objects[0].Values[0] = "0" },
		"objects' order":  func(b book) { slices.Reverse(b.Objects) },
		"a link":          func(b book) { b.Objects[2].Values[3] = "b-9" },
		"a grant":         func(b book) { b.Grants[0].To = "" },
		"a sum":           func(b book) { b.Ledgers[1].Free++ },
		"ledgers' order":  func(b book) { slices.Reverse(b.Ledgers) },
		"a ledger":        func(b book) { b.Ledgers[2].Team = "ghost" },
		"a purse":         func(b book) { b.Purses[1].Until = 16 },
		"purses' order":   func(b book) { slices.Reverse(b.Purses) },
		"without ledgers": func(b book) { b.Ledgers = nil },
		"all but nothing": func(b book) { *b = impl.GateBook{Given: 1} },
	} {
		b := fleetBook()
		edit(&b)
		check(what, fleetLaw(), b)
	}
}

// The other parts of a book are the same behind all of them.
func TestGatePursesLeaveTheRest(t *testing.T) {
	for _, c := range allPurseCalls() {
		got, _ := c.call(fleetLaw(), fleetBook())
		want := fleetBook()
		if got.Now != want.Now || got.Given != want.Given || !same(got.Objects, want.Objects) || !same(got.Grants, want.Grants) {
			t.Errorf("%s: %+v", c.what, got)
		}
	}
}

// Calls that answer a number or whether something is so leave their arguments, too.
func TestGateBooksLeaveTheirArguments(t *testing.T) {
	l, b, o := spread(fleetLaw()), spread(fleetBook()), spread(fleetBook().Objects[3])
	aheadLaw, aheadBook, aheadObject := whole(l), whole(b), whole(o)
	for what, call := range map[string]func() bool{
		"GateLawOk":  func() bool { return impl.GateLawOk(l) },
		"GateWeighs": func() bool { return impl.GateWeighs(l, o, "need") == 5 },
		"GateUsed":   func() bool { return impl.GateUsed(l, b, "dev", "need") == 13 },
		"GateBookOk": func() bool { return impl.GateBookOk(l, b) },
	} {
		if !call() {
			t.Errorf("%s: another answer", what)
		}
		if !same(whole(l), aheadLaw) || !same(whole(b), aheadBook) || !same(whole(o), aheadObject) {
			t.Errorf("%s: an argument is changed", what)
		}
	}
}

// What a caller does to an answer, or to an argument behind the call, is not seen in the other one.
func TestGatePursesShareNothing(t *testing.T) {
	for _, c := range allPurseCalls() {
		l, b := fleetLaw(), fleetBook()
		got, code := c.call(l, b)
		want, _ := c.call(fleetLaw(), fleetBook())
		wipe(&b)
		if !same(got, want) {
			t.Errorf("%s, %d: the answer changes with the argument", c.what, code)
		}
		b = fleetBook()
		got, _ = c.call(l, b)
		wipe(&got)
		if !same(b, fleetBook()) || !same(l, fleetLaw()) {
			t.Errorf("%s, %d: an argument changes with the answer", c.what, code)
		}
	}
}

func wipe(b book) {
	for _, o := range b.Objects {
		clear(o.Values)
		clear(o.Holds)
	}
	for _, g := range b.Grants {
		clear(g.Rule.Verbs)
	}
	clear(b.Objects)
	clear(b.Grants)
	clear(b.Ledgers)
	clear(b.Purses)
}
