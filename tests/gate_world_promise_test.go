package tests

import (
	"slices"
	"testing"

	"loop.example/wharfdesk/impl"
)

// worldIsOk is the document's sentence on when a world is ok.
func worldIsOk(l impl.GateLaw, w impl.GateWorld) bool {
	if !bookIsOk(l, w.Book) || len(w.Doors) > 4 || !ascendingKeys(w.Doors, func(d door) []string { return texts{d.Name} }) {
		return false
	}
	return all(w.Doors, func(d door) bool {
		slipsAreOk := all(d.Slips, func(s slip) bool { return slipIsOk(l, s) && s.Door == d.Name })
		mayHave := 6
		if !d.Up {
			mayHave = 0
		}
		return names.MatchString(d.Name) && bookIsOk(l, d.View) && d.View.Now <= w.Book.Now && slipsAreOk && len(d.Slips) <= mayHave
	})
}

// isSafe is the document's sentence on when a world is safe.
func isSafe(l impl.GateLaw, first impl.GateBook, w impl.GateWorld) bool {
	return bookIsOk(l, first) && worldIsOk(l, w) && noMoreThan(l, first, w.Book)
}

func noMoreThan(l impl.GateLaw, first, b impl.GateBook) bool {
	return all(b.Grants, func(g impl.GateGrant) bool {
		return all(g.Rule.Verbs, func(verb int) bool { return coveredBy(l.Teams, rulesOf(first), g.Rule, verb) })
	})
}

func rulesOf(b impl.GateBook) ruleList {
	var list ruleList
	for _, g := range b.Grants {
		list = append(list, g.Rule)
	}
	return list
}

// canBe is the document's list of when an event is told 13.
func canBe(w impl.GateWorld, e event) bool {
	d := door{}
	there := e.Door >= 0 && e.Door < len(w.Doors)
	if there {
		d = w.Doors[e.Door]
	}
	switch e.Kind {
	case 7, 10, 11:
		return true
	case 9:
		return there && !d.Up
	case 1, 5, 6, 8:
		return there && d.Up
	case 2:
		return there && d.Up && len(d.Slips) != 6
	case 3, 4:
		return there && d.Up && e.At >= 0 && e.At < len(d.Slips)
	}
	return false
}

// stepped is the document's table of events.
func stepped(l impl.GateLaw, w impl.GateWorld, e event) (impl.GateWorld, impl.GateSaid) {
	if !worldIsOk(l, w) {
		return impl.GateWorld{}, refused(1, 0)
	}
	next := spread(w)
	if !canBe(w, e) {
		return next, refused(13, 0)
	}
	d := &door{}
	if e.Door >= 0 && e.Door < len(next.Doors) {
		d = &next.Doors[e.Door]
	}
	said := impl.GateSaid{}
	book := next.Book
	switch e.Kind {
	case 1:
		d.View = spread(w.Book)
	case 2:
		made, told := slipped(l, d.View, d.Name, e.Ask)
		said = told
		if said.Code == 0 {
			d.Slips = append(slices.Clone(d.Slips), made)
		}
	case 3:
		book, said = committed(l, w.Book, d.Slips[e.At])
		d.Slips = slices.Delete(d.Slips, e.At, e.At+1)
	case 4:
		d.Slips = slices.Delete(d.Slips, e.At, e.At+1)
	case 5, 6, 7, 11:
		model := countedOf(w.Book)
		said.Code = model.apply(l, w.Book, purseEvent(e, d.Name))
		book = model.bookOf(l, w.Book)
	case 8:
		d.Up, d.Slips = false, nil
	case 9:
		d.Up = true
	case 10:
		book, said.Code = swept(l, w.Book)
	}
	if said.Code == 0 {
		next.Book = book
	}
	return next, said
}

// purseEvent is the call that an event makes.
func purseEvent(e event, door string) asked {
	kinds := map[int]int{impl.GateDraws: 0, impl.GateBacks: 4, impl.GateTicks: 5, impl.GateBinds: 6}
	return asked{kind: kinds[e.Kind], door: door, of: account{e.Team, e.Resource}, amount: e.Amount}
}

// world is ok, and begins with any views and slips, as if much had happened.
func (d *dice) world() (impl.GateLaw, impl.GateWorld) {
	l, b := d.port()
	w := impl.GateWorld{Book: b}
	for _, name := range []string{"d0", "d1", "d2", "d3"} {
		if d.roll(5) == 0 {
			continue
		}
		of := door{Name: name, Up: d.roll(6) > 0, View: d.pastView(l, b)}
		for range d.roll(3) {
			if s, said := impl.GateSlipOf(l, of.View, name, d.lateAsk(l, of.View)); of.Up && said.Code == 0 {
				of.Slips = append(of.Slips, s)
			}
		}
		for i := range of.Slips {
			if s := spread(of.Slips[i]); d.roll(4) == 0 {
				d.spoilSlip(&s, b)
				if slipIsOk(l, s) && s.Door == name {
					of.Slips[i] = s
				}
			}
		}
		w.Doors = append(w.Doors, of)
	}
	return l, w
}

// pastView is ok, and no newer than the book; others may have rights in it than in the book.
func (d *dice) pastView(l impl.GateLaw, b impl.GateBook) impl.GateBook {
	view := spread(b)
	switch d.roll(4) {
	case 0:
		return impl.GateBook{}
	case 1:
		view.Grants = []impl.GateGrant{{Number: 1, To: pick(d, "root", "ann", "bob", "cy"), Rule: rule("", 1, 2, 3, 4, 5)}}
	case 2:
		view = d.dockBook(l, 5)
		view.Grants = []impl.GateGrant{{Number: 1, To: "root", Rule: rule("", 1, 2, 3, 4, 5)}}
		view.Given = max(view.Given, 1)
	}
	return view
}

// gift is mostly of what somebody may give, by whom may.
func (d *dice) gift(l impl.GateLaw, b impl.GateBook) ask {
	a := ask{Who: "root", Verb: impl.GateGive, To: pick(d, "ann", "bob", "cy"), Rule: d.portRule(l)}
	mayGive := slices.DeleteFunc(spread(b.Grants), func(g impl.GateGrant) bool { return !slices.Contains(g.Rule.Verbs, impl.GateGive) })
	if len(mayGive) == 0 || d.roll(6) == 0 {
		return a
	}
	g := pick(d, mayGive...)
	a.Who, a.Rule = g.To, d.narrower(l.Teams, g.Rule)
	if len(a.Rule.Prefix) > impl.GateMaxName {
		a.Rule.Prefix = a.Rule.Prefix[:impl.GateMaxName]
	}
	if d.roll(4) == 0 {
		a.Rule = pick(d, impl.GateRule{Verbs: d.verbs(), Kind: g.Rule.Kind, Team: g.Rule.Team, Prefix: g.Rule.Prefix}, d.portRule(l))
	}
	return a
}

// doorsFor are the places of the doors at which an event of a kind can be.
func doorsFor(w impl.GateWorld, kind int) []int {
	var fits []int
	for place := range w.Doors {
		if canBe(w, event{Kind: kind, Door: place}) {
			fits = append(fits, place)
		}
	}
	return fits
}

// event mostly can be.
func (d *dice) event(l impl.GateLaw, w impl.GateWorld) event {
	call := d.asked(l, w.Book)
	e := event{
		Kind: pick(d, 1, 1, 1, 2, 2, 2, 2, 2, 2, 2, 2, 3, 3, 3, 3, 3, 3, 3, 4, 5, 5, 6, 7, 8, 9, 9, 10, 11, 11),
		Door: d.roll(8) - 2, At: d.roll(8) - 1,
		Team: call.of.team, Resource: call.of.resource, Amount: call.amount,
	}
	if fits := doorsFor(w, e.Kind); len(fits) > 0 && d.roll(15) > 0 {
		e.Door = pick(d, fits...)
	} else if d.roll(3) > 0 {
		e.Kind = pick(d, impl.GateTicks, impl.GateSweeps, impl.GateBinds, d.roll(16)-2)
	}
	if e.Door < 0 || e.Door >= len(w.Doors) {
		return e
	}
	of := w.Doors[e.Door]
	if len(of.Slips) > 0 && d.roll(20) > 0 {
		e.At = d.roll(len(of.Slips))
	}
	if e.Kind == impl.GateAsks || d.roll(5) == 0 {
		e.Ask = d.worldAsk(l, of.View)
	}
	return e
}

// worldAsk is mostly by somebody who has rights.
func (d *dice) worldAsk(l impl.GateLaw, view impl.GateBook) ask {
	if d.roll(4) == 0 {
		return d.gift(l, view)
	}
	a := d.lateAsk(l, view)
	if len(view.Grants) > 0 && d.roll(3) == 0 {
		a.Who = pick(d, view.Grants...).To
	}
	return a
}

// hadTheRight says of an ask in front of a book what the document says of codes 3 and 4.
func hadTheRight(l impl.GateLaw, b impl.GateBook, a ask) bool {
	if a.Verb == impl.GateTake {
		return slices.ContainsFunc(b.Grants, func(g impl.GateGrant) bool { return g.Number == a.Number }) && hearingOf(l, b, "d", a).may()
	}
	return hearingOf(l, b, "d", a).may()
}

// rightsHold is promise 4 of a book: acts of many kinds that a grant allows, one of the first ones allows.
func (d *dice) rightsHold(l impl.GateLaw, first, b impl.GateBook) bool {
	return all(b.Grants, func(g impl.GateGrant) bool {
		for range 6 {
			a := d.actOf(l.Teams, g.Rule)
			if impl.GateAllows(l.Teams, g.Rule, a) && !allowedByOne(l.Teams, rulesOf(first), a) {
				return false
			}
		}
		return true
	})
}

// firstOf is a book whose grants cover those of the world's Book: mostly its own, and some that are not in it any more.
func (d *dice) firstOf(w impl.GateWorld) impl.GateBook {
	if d.roll(3) == 0 {
		return grantsOf(rulesOf(w.Book)...)
	}
	return w.Book
}

// toldSteps counts what steps of each kind were told.
type toldSteps map[int][14]int

func (c toldSteps) count(kind, code int) {
	told := c[kind]
	told[code]++
	c[kind] = told
}

func (c toldSteps) isAtLeast(t *testing.T, least toldSteps) {
	t.Helper()
	for kind := range least {
		for code := range least[kind] {
			if c[kind][code] < least[kind][code] {
				t.Errorf("too few made-up cases of %d: %v", kind, c[kind])
				break
			}
		}
	}
}

// Promises 4 and 13, and that each event does what the document says, in many histories.
func TestGateStepMadeUp(t *testing.T) {
	t.Parallel()
	d := dice(81)
	told := toldSteps{}
	gifts, byOthers := 0, 0
	for range 160 {
		l, w := d.world()
		// What nobody but root may do says little of rights.
		if d.roll(3) == 0 {
			w.Book.Grants = w.Book.Grants[1:]
		}
		first := d.firstOf(w)
		for step := range 60 {
			e := d.event(l, w)
			next, said := checkStepMadeUp(t, l, w, e, step%8 == 0)
			told.count(max(0, e.Kind), said.Code)
			if !impl.GateSafe(l, first, next) || !noMoreThan(l, first, next.Book) || step%10 == 9 && !d.rightsHold(l, first, next.Book) {
				t.Fatalf("not safe by %+v any more: %+v became %+v by %+v, of %+v", first, w, next, e, l)
			}
			if e.Kind == impl.GateCommits && said.Code == 0 {
				a := w.Doors[e.Door].Slips[e.At].Ask
				if !hadTheRight(l, w.Book, a) {
					t.Fatalf("%+v was done, of %+v, %+v", a, l, w.Book)
				}
				if a.Verb == impl.GateGive {
					gifts++
				}
				if a.Verb == impl.GateGive && a.Who != "root" {
					byOthers++
				}
			}
			w = next
		}
		if !worldIsOk(l, w) {
			t.Fatalf("not ok: %+v, %+v", l, w)
		}
	}
	if gifts < 100 || byOthers < 50 {
		t.Errorf("too few made-up gifts: %d, of which %d were by others than root", gifts, byOthers)
	}
	told.isAtLeast(t, toldSteps{
		0:                {13: 20},
		impl.GateLook:    {0: 300, 13: 20},
		impl.GateAsks:    {0: 300, 2: 20, 3: 50, 4: 100, 5: 20, 6: 20, 7: 20, 8: 5, 9: 10, 11: 50, 13: 20},
		impl.GateCommits: {0: 100, 4: 10, 10: 10, 11: 1, 12: 100, 13: 50},
		impl.GateLoses:   {0: 50, 13: 20},
		impl.GateDraws:   {0: 100, 2: 50, 3: 50, 13: 20},
		impl.GateBacks:   {0: 20, 2: 50, 13: 10},
		impl.GateTicks:   {0: 300},
		impl.GateDies:    {0: 100, 13: 10},
		impl.GateRises:   {0: 100, 13: 50},
		impl.GateSweeps:  {0: 50, 2: 100},
		impl.GateBinds:   {0: 200, 2: 20, 3: 50, 4: 2},
		12:               {13: 10},
	})
}

// checkStepMadeUp lets something happen in an ok world; all of the memory is looked at if that is asked for, as it takes long.
func checkStepMadeUp(t *testing.T, l impl.GateLaw, w impl.GateWorld, e event, memory bool) (impl.GateWorld, impl.GateSaid) {
	t.Helper()
	want, wantSaid := stepped(l, w, e)
	var ahead impl.GateWorld
	if memory {
		w = spread(w)
		ahead = whole(w)
	}
	got, said := impl.GateStep(l, w, e)
	if said != wantSaid || !same(got, want) {
		t.Fatalf("%+v and %+v, not %+v and %+v, of %+v, %+v, %+v", said, got, wantSaid, want, l, w, e)
	}
	if said.Code == 1 || !impl.GateWorldOk(l, got) {
		t.Fatalf("%+v: not ok: %+v, %+v became %+v", e, l, w, got)
	}
	if !boundsHold(l, got.Book) || !all(got.Book.Objects, func(o impl.GateObject) bool { return linksAreThere(l, got.Book, o) }) {
		t.Fatalf("%+v: %+v, %+v became %+v", e, l, w, got)
	}
	if memory {
		newMemory(t, "made up", got, l, w, e)
		if !same(whole(w), ahead) {
			t.Fatalf("%+v: the world was changed", e)
		}
	}
	return got, said
}

// Promise 4, of books that are asked themselves, with gifts of gifts, and takes between them.
func TestGateRightsMadeUp(t *testing.T) {
	d := dice(82)
	done, refusals := map[int]int{}, map[int]int{}
	for range 150 {
		l, b := d.port()
		b.Grants = b.Grants[d.roll(2):]
		first := b
		for range 60 {
			a := d.worldAsk(l, b)
			if d.roll(8) == 0 && len(b.Grants) > 0 {
				a = ask{Who: pick(&d, b.Grants...).To, Verb: impl.GateTake, Number: pick(&d, b.Grants...).Number}
			}
			next, said := impl.GatePass(l, b, pick(&d, "d0", "d1", "d2"), a)
			if said.Code == 4 {
				refusals[a.Verb]++
			}
			if said.Code != 0 {
				continue
			}
			done[a.Verb]++
			if !hadTheRight(l, b, a) {
				t.Fatalf("%+v was done, of %+v, %+v", a, l, b)
			}
			b = next
			if !noMoreThan(l, first, b) || !impl.GateSafe(l, first, impl.GateWorld{Book: b}) || a.Verb == impl.GateGive && !d.rightsHold(l, first, b) {
				t.Fatalf("more than %+v gave: %+v, behind %+v, of %+v", first, b, a, l)
			}
		}
	}
	for verb, least := range map[int]int{impl.GateMake: 200, impl.GateChange: 200, impl.GateEnd: 100, impl.GateLetGo: 20, impl.GateGive: 200, impl.GateTake: 200} {
		if done[verb] < least || refusals[verb] < 20 {
			t.Errorf("too few made-up cases of %d: %v were done, and %v were not", verb, done, refusals)
		}
	}
}

// spoilWorld turns one part of a world, sometimes to one that is ok too.
func (d *dice) spoilWorld(l law, w world) {
	if len(w.Doors) == 0 || d.roll(6) == 0 {
		d.spoil(l, &w.Book)
		return
	}
	of := &w.Doors[d.roll(len(w.Doors))]
	switch d.roll(9) {
	case 0:
		d.spoil(l, &of.View)
	case 1:
		of.View.Now = w.Book.Now + d.roll(3) - 1
	case 2:
		of.Name = pick(d, "", "D", "d0", "d1", "d2", "d3", letters(16), letters(17))
	case 3:
		of.Up = !of.Up
	case 4:
		w.Doors = append(w.Doors, door{Name: pick(d, "d4", "d9", "a"), Up: d.roll(2) == 0})
	case 5:
		swapTwo(d, w.Doors)
	case 6:
		of.Slips = append(of.Slips, slip{Door: pick(d, of.Name, of.Name, "d1"), Ask: toTake(d.roll(3)), Given: d.roll(9) - 1})
	case 7:
		of.Slips = slices.Repeat(of.Slips, 1+d.roll(4))
	case 8:
		if len(of.Slips) > 0 {
			d.spoilSlip(&of.Slips[d.roll(len(of.Slips))], w.Book)
		}
	}
}

// Worlds of which many are not ok: then nothing is safe, and nothing happens.
func TestGateStepOfSpoiltWorlds(t *testing.T) {
	t.Parallel()
	d := dice(83)
	counts, safe := map[bool]int{}, map[bool]int{}
	for range 2500 {
		l, w := d.world()
		first := d.firstOf(w)
		w, l = spread(w), spread(l)
		for range d.roll(3) {
			d.spoilWorld(&l, &w)
		}
		if d.roll(4) == 0 {
			first = d.pastView(l, w.Book)
		}
		ok := worldIsOk(l, w)
		counts[ok]++
		if got := impl.GateWorldOk(l, w); got != ok {
			t.Fatalf("ok is %v of %+v, %+v", got, l, w)
		}
		expected := isSafe(l, first, w)
		safe[expected]++
		if got := impl.GateSafe(l, first, w); got != expected {
			t.Fatalf("safe is %v of %+v, %+v, %+v", got, l, first, w)
		}
		e := d.event(l, w)
		want, wantSaid := stepped(l, w, e)
		if got, said := impl.GateStep(l, w, e); said != wantSaid || !same(got, want) || ok == (said.Code == 1) {
			t.Fatalf("%+v and %+v, not %+v and %+v, of %+v, %+v, %+v", said, got, wantSaid, want, l, w, e)
		}
	}
	if counts[true] < 500 || counts[false] < 500 || safe[true] < 500 || safe[false] < 500 {
		t.Errorf("too few made-up cases: %v ok, %v safe", counts, safe)
	}
}

// Promise 6 in a world: what a door drew comes back at the latest GatePurseLife + 1 ticks behind its last draw, though it died at once.
func TestGateStepDeadDoorsPursesComeBack(t *testing.T) {
	d := dice(84)
	came := 0
	for range 300 {
		l, w := d.world()
		up := doorsFor(w, impl.GateDies)
		if len(up) == 0 || len(w.Book.Ledgers) == 0 || w.Book.Tick > impl.GateMaxNumber-20 {
			continue
		}
		place, ledger := pick(&d, up...), pick(&d, w.Book.Ledgers...)
		w, said := impl.GateStep(l, w, draws(place, ledger.Team, ledger.Resource, 1))
		if said.Code != 0 {
			continue
		}
		w, _ = impl.GateStep(l, w, dies(place))
		mine := func(p impl.GatePurse) bool {
			return p.Door == w.Doors[place].Name && p.Team == ledger.Team && p.Resource == ledger.Resource
		}
		for tick := 1; tick <= impl.GatePurseLife+1; tick++ {
			if w, said = impl.GateStep(l, w, ticks()); said.Code != 0 {
				t.Fatalf("%+v", said)
			}
			if slices.ContainsFunc(w.Book.Purses, mine) != (tick <= impl.GatePurseLife) {
				t.Fatalf("%d ticks behind the draw: %+v", tick, w.Book)
			}
		}
		came++
	}
	if came < 50 {
		t.Errorf("too few made-up cases: %d", came)
	}
}
