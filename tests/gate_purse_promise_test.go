package tests

import (
	"slices"
	"testing"

	"loop.example/wharfdesk/impl"
)

type (
	account struct{ team, resource string }
	held    struct {
		door string
		of   account
	}
)

// counted is a book's ledgers and purses, kept by what they are of; what is free is not kept, but worked out.
type counted struct {
	tick   int
	most   map[account]int
	purses map[held][2]int
}

func countedOf(b impl.GateBook) counted {
	c := counted{tick: b.Tick, most: map[account]int{}, purses: map[held][2]int{}}
	for _, ledger := range b.Ledgers {
		c.most[account{ledger.Team, ledger.Resource}] = ledger.Most
	}
	for _, p := range b.Purses {
		c.purses[held{p.Door, account{p.Team, p.Resource}}] = [2]int{p.Amount, p.Until}
	}
	return c
}

// free is what nobody uses and nobody drew.
func (c counted) free(l impl.GateLaw, b impl.GateBook, of account) int {
	left := c.most[of] - usedBy(l, b, of.team, of.resource)
	for purse, has := range c.purses {
		if purse.of == of {
			left -= has[0]
		}
	}
	return left
}

// bookOf is b with these ledgers and purses.
func (c counted) bookOf(l impl.GateLaw, b impl.GateBook) impl.GateBook {
	b.Tick, b.Ledgers, b.Purses = c.tick, nil, nil
	for of, most := range c.most {
		b.Ledgers = append(b.Ledgers, impl.GateLedger{Team: of.team, Resource: of.resource, Most: most, Free: c.free(l, b, of)})
	}
	for purse, has := range c.purses {
		b.Purses = append(b.Purses, impl.GatePurse{Door: purse.door, Team: purse.of.team, Resource: purse.of.resource, Amount: has[0], Until: has[1]})
	}
	inOrder(&b)
	return b
}

// asked is one call, made up.
type asked struct {
	kind   int
	door   string
	of     account
	amount int
}

func (d *dice) asked(l impl.GateLaw, b impl.GateBook) asked {
	a := asked{kind: d.roll(8), door: pick(d, "d0", "d1", "d2", "d3"), amount: 1 + d.roll(12)}
	a.of = account{pick(d, l.Teams...).Name, pick(d, "r0", "r1", "k0", "k1", "k2", "gold")}
	if len(b.Ledgers) > 0 && d.roll(3) > 0 {
		ledger := pick(d, b.Ledgers...)
		a.of = account{ledger.Team, ledger.Resource}
		if a.kind > 5 {
			a.amount = ledger.Most + d.roll(20) - 12
		}
	}
	if len(b.Purses) > 0 && d.roll(3) == 0 {
		p := pick(d, b.Purses...)
		a.door, a.of = p.Door, account{p.Team, p.Resource}
	}
	if d.roll(20) == 0 {
		a.amount = pick(d, 0, -1, impl.GateMaxNumber, impl.GateMaxNumber+1)
	}
	if d.roll(30) == 0 {
		a.door, a.of.team = pick(d, "", "D"), pick(d, a.of.team, "ghost", "")
	}
	return a
}

func (a asked) function() string {
	return []string{"draw", "draw", "draw", "draw", "back", "tick", "bound", "bound"}[a.kind]
}

func (a asked) call(l impl.GateLaw, b impl.GateBook) (impl.GateBook, int) {
	switch a.function() {
	case "draw":
		return impl.GateDraw(l, b, a.door, a.of.team, a.of.resource, a.amount)
	case "back":
		return impl.GateBack(l, b, a.door, a.of.team, a.of.resource)
	case "tick":
		return impl.GateTick(l, b)
	}
	return impl.GateBound(l, b, a.of.team, a.of.resource, a.amount)
}

// apply is the document's chapter on purses, on what is counted; with a code that is not 0 nothing of it has changed.
func (c *counted) apply(l impl.GateLaw, b impl.GateBook, a asked) int {
	purse := held{a.door, a.of}
	_, ledgerThere := c.most[a.of]
	_, purseThere := c.purses[purse]
	switch a.function() {
	case "draw":
		switch {
		case !names.MatchString(a.door) || !ledgerThere || a.amount < 1 || a.amount > 1000000:
			return 2
		case c.free(l, b, a.of) < a.amount:
			return 3
		case !purseThere && len(c.purses) == 24:
			return 4
		}
		c.purses[purse] = [2]int{c.purses[purse][0] + a.amount, c.tick + 10}
	case "back":
		if !purseThere {
			return 2
		}
		delete(c.purses, purse)
	case "tick":
		if c.tick == 1000000 {
			return 2
		}
		c.tick++
		for purse, has := range c.purses {
			if has[1] < c.tick {
				delete(c.purses, purse)
			}
		}
	case "bound":
		return c.bound(l, b, a)
	}
	return 0
}

func (c *counted) bound(l impl.GateLaw, b impl.GateBook, a asked) int {
	old, there := c.most[a.of]
	if !isTeam(l, a.of.team) || !names.MatchString(a.of.resource) || a.amount < 0 || a.amount > 1000000 {
		return 2
	}
	c.most[a.of] = a.amount
	undo := func() {
		delete(c.most, a.of)
		if there {
			c.most[a.of] = old
		}
	}
	if c.free(l, b, a.of) < 0 {
		undo()
		return 3
	}
	if len(c.most) > 10 {
		undo()
		return 4
	}
	return 0
}

// crowd draws until there are nearly as many purses as there may be.
func (d *dice) crowd(l impl.GateLaw, b impl.GateBook) impl.GateBook {
	for i := range 8 {
		b, _ = impl.GateBound(l, b, pick(d, l.Teams...).Name, pick(d, "gold", "tar", "oil"), 40+i)
	}
	for range 300 {
		if ledger := pick(d, b.Ledgers...); len(b.Purses) < impl.GateMaxPurses-d.roll(3) {
			b, _ = impl.GateDraw(l, b, pick(d, "d0", "d1", "d2", "d3", "d4", "d5"), ledger.Team, ledger.Resource, 1)
		}
	}
	return b
}

// boundsHold is promise 5 of a book.
func boundsHold(l impl.GateLaw, b impl.GateBook) bool {
	return all(b.Ledgers, func(ledger impl.GateLedger) bool {
		used, drawn := usedBy(l, b, ledger.Team, ledger.Resource), drawnFrom(b, ledger.Team, ledger.Resource)
		return used+drawn+ledger.Free == ledger.Most && ledger.Free >= 0 && used <= ledger.Most
	})
}

// Promise 5, and that each call does what the document says, in many orders.
func TestGatePursesMadeUp(t *testing.T) {
	t.Parallel()
	d := dice(31)
	codes := map[string][5]int{}
	for range 250 {
		l := d.law()
		b := d.book(l)
		if d.roll(10) == 0 {
			shiftTicks(&b, impl.GateMaxNumber-20-b.Tick+d.roll(20))
		}
		if d.roll(4) == 0 {
			b = d.crowd(l, b)
		}
		model := countedOf(b)
		for range 60 {
			a := d.asked(l, b)
			ahead := spread(b)
			want := model.apply(l, b, a)
			wantBook := model.bookOf(l, b)
			next, code := a.call(l, ahead)
			if code != want || !same(next, wantBook) {
				t.Fatalf("%s %+v: %d and %+v, not %d and %+v, of %+v, %+v", a.function(), a, code, next, want, wantBook, l, b)
			}
			if !same(whole(ahead), whole(spread(b))) {
				t.Fatalf("%s %+v: the book was changed", a.function(), a)
			}
			if !impl.GateBookOk(l, next) || !bookIsOk(l, next) || !boundsHold(l, next) {
				t.Fatalf("%s %+v: not ok: %+v, %+v", a.function(), a, l, next)
			}
			told := codes[a.function()]
			told[code]++
			codes[a.function()] = told
			b = next
		}
	}
	for what, least := range map[string][5]int{"draw": {1000, 0, 100, 100, 20}, "back": {200, 0, 100, 0, 0}, "tick": {1000, 0, 10, 0, 0}, "bound": {500, 0, 20, 20, 20}} {
		for code := range least {
			if codes[what][code] < least[code] {
				t.Errorf("too few made-up cases: %v", codes)
			}
		}
	}
}

// Promise 6: at once when it is given back, whatever else happened between.
func TestGatePursesComeBackAtOnce(t *testing.T) {
	d := dice(32)
	whole := 0
	for range 1000 {
		l := d.law()
		b := d.book(l)
		for range d.roll(12) {
			b, _ = d.asked(l, b).call(l, b)
		}
		for _, p := range slices.Clone(b.Purses) {
			next, code := impl.GateBack(l, b, p.Door, p.Team, p.Resource)
			if code != 0 {
				t.Fatalf("%d of %+v in %+v", code, p, b)
			}
			for i, ledger := range next.Ledgers {
				want := b.Ledgers[i]
				if want.Team == p.Team && want.Resource == p.Resource {
					want.Free += p.Amount
				}
				if ledger != want {
					t.Fatalf("%+v became %+v by %+v", b.Ledgers[i], ledger, p)
				}
			}
			if again, code := impl.GateBack(l, next, p.Door, p.Team, p.Resource); code != 2 || !same(again, next) {
				t.Fatalf("given back twice: %d", code)
			}
			b = next
			whole++
		}
		if len(b.Purses) != 0 || !all(b.Ledgers, func(ledger impl.GateLedger) bool {
			return ledger.Free == ledger.Most-usedBy(l, b, ledger.Team, ledger.Resource)
		}) {
			t.Fatalf("not all came back: %+v", b)
		}
	}
	if whole < 1000 {
		t.Errorf("too few made-up cases: %d", whole)
	}
}

// Promise 6: at the latest GatePurseLife + 1 ticks behind the last draw, and not ahead of that, the door doing nothing any more, and others going on.
func TestGatePursesComeBackFromTheDead(t *testing.T) {
	t.Parallel()
	d := dice(33)
	came, alone := 0, 0
	for range 1500 {
		l := d.law()
		b := d.book(l)
		for range d.roll(30) {
			b, _ = d.asked(l, b).call(l, b)
		}
		if len(b.Ledgers) == 0 {
			continue
		}
		ledger := pick(&d, b.Ledgers...)
		next, code := impl.GateDraw(l, b, "dead", ledger.Team, ledger.Resource, 1+d.roll(4))
		if code != 0 {
			continue
		}
		b = next
		has := func(p impl.GatePurse) bool { return p.Door == "dead" }
		mine := b.Purses[slices.IndexFunc(b.Purses, has)]
		others := d.roll(2) == 0
		for ticks := 1; ticks <= impl.GatePurseLife+1; ticks++ {
			for range d.roll(4) {
				if a := d.asked(l, b); others && a.function() != "tick" && a.door != "dead" {
					b, _ = a.call(l, b)
				}
			}
			ahead := b
			if b, code = impl.GateTick(l, b); code != 0 {
				t.Fatalf("%d at tick %d", code, ahead.Tick)
			}
			at := slices.IndexFunc(b.Purses, has)
			if (at >= 0) != (ticks <= impl.GatePurseLife) {
				t.Fatalf("%d ticks behind the draw: %+v", ticks, b)
			}
			if at >= 0 && b.Purses[at] != mine {
				t.Fatalf("%d ticks behind the draw %+v is %+v", ticks, mine, b.Purses[at])
			}
			if at < 0 {
				came++
				freed(t, ahead, b)
			}
		}
		if !others {
			alone++
			// By then all purses are gone, and all that is not used is free.
			if len(b.Purses) != 0 || !all(b.Ledgers, func(ledger impl.GateLedger) bool {
				return ledger.Free == ledger.Most-usedBy(l, b, ledger.Team, ledger.Resource)
			}) {
				t.Fatalf("not all came back: %+v", b)
			}
		}
	}
	if came < 300 || alone < 100 {
		t.Errorf("too few made-up cases: %d came back, %d of them alone", came, alone)
	}
}

// freed says that by a tick each ledger got what its purses that went had, and no more.
func freed(t *testing.T, ahead, behind impl.GateBook) {
	t.Helper()
	for i, ledger := range behind.Ledgers {
		gone := drawnFrom(ahead, ledger.Team, ledger.Resource) - drawnFrom(behind, ledger.Team, ledger.Resource)
		if want := ahead.Ledgers[i].Free + gone; ledger.Free != want || ledger.Most != ahead.Ledgers[i].Most {
			t.Fatalf("%+v became %+v, %d having gone", ahead.Ledgers[i], ledger, gone)
		}
	}
}
