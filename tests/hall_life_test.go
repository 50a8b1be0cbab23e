package tests

import (
	"slices"
	"testing"

	"loop.example/wharfdesk/impl"
)

// hallLife counts what happened in books that entries led to from the first ones.
type hallLife struct {
	told     hallTold
	harmless stewHarmless
	// gifts are grants that are not the house's; full are ledgers of which no copy is left; went are objects that went, kept are steps in which one that is Ending and has copies stayed.
	gifts, full, went, kept int
}

// goesOn is promises 35 and 37 to 40, of one entry.
func (n *hallLife) goesOn(t *testing.T, h house, b, next twoBooks, e entry, said impl.GateSaid) {
	t.Helper()
	n.told.add(e.Kind, said)
	if said.Code != 0 {
		stays := b
		if impl.HallForm(e) == "" {
			stays = twoBooks{}
		}
		if !same(next, stays) {
			t.Fatalf("%+v: %+v became %+v by %+v", said, b, next, e)
		}
		return
	}
	if !impl.HallOk(h, next) || !hallIsTied(next) {
		t.Fatalf("%+v became %+v by %+v", b, next, e)
	}
	n.rights(t, h, next)
	n.bounds(t, h, next)
	n.held(t, h, b, next)
	if e.Kind == impl.HallAct {
		n.harmless.add(t, b.Stew, next.Stew, e.Act)
	}
}

// rights is promise 37.
func (n *hallLife) rights(t *testing.T, h house, b twoBooks) {
	t.Helper()
	if !noMoreThan(hallLawOf(h.Teams), impl.GateBook{Grants: h.Grants}, b.Gate) {
		t.Fatalf("more than the house gave: %+v", b.Gate.Grants)
	}
	for _, g := range b.Gate.Grants {
		if g.By != "" {
			n.gifts++
		}
	}
}

// bounds is promise 38, as far as it is of books.
func (n *hallLife) bounds(t *testing.T, h house, b twoBooks) {
	t.Helper()
	for _, ledger := range b.Gate.Ledgers {
		if ledger.Resource != "copies" {
			continue
		}
		may := 0
		for _, s := range b.Stew.Services {
			o := b.Gate.Objects[placeOf(b.Gate, thing{"service", s.Name})]
			if !standsUnder(h.Teams, o.Team, ledger.Team) {
				continue
			}
			if s.Per > 0 {
				may += s.Most + s.Over
			} else {
				may += s.Want + s.Over
			}
		}
		if may > ledger.Most {
			t.Fatalf("%d copies by %+v: %+v", may, ledger, b)
		}
		if may > 0 && may == ledger.Most {
			n.full++
		}
	}
}

// held is promise 39: what an object is that ends does not change as long as it is there.
func (n *hallLife) held(t *testing.T, h house, b, next twoBooks) {
	t.Helper()
	for _, o := range b.Gate.Objects {
		hasCopies := slices.ContainsFunc(b.Stew.Copies, func(c impl.StewCopy) bool { return c.Service == o.Name })
		place := placeOf(next.Gate, thing{"service", o.Name})
		if place < 0 {
			n.went++
			if hasCopies || slices.ContainsFunc(next.Stew.Copies, func(c impl.StewCopy) bool { return c.Service == o.Name }) {
				t.Fatalf("%s went: %+v became %+v", o.Name, b, next)
			}
			continue
		}
		is := next.Gate.Objects[place]
		if o.Ending && (!is.Ending || !slices.Equal(is.Values, o.Values) || is.Team != o.Team) {
			t.Fatalf("%+v became %+v", o, is)
		}
		for _, ledger := range next.Gate.Ledgers {
			if weighs := weightOf(hallLawOf(h.Teams), is, ledger.Resource); ledger.Team == is.Team && weighs > ledger.Most-ledger.Free {
				t.Fatalf("%s weighs %d by %+v", is.Name, weighs, ledger)
			}
		}
		if o.Ending && hasCopies {
			n.kept++
		}
	}
}

// hallBegins are entries with which a house comes to life.
func (d *dice) hallBegins(h house) []entry {
	list := []entry{hallAtSea(1, stewRaiseOf("b1", false)), hallAtSea(1, stewRaiseOf("b2", d.roll(2) == 0))}
	for _, team := range h.Teams {
		if most := d.roll(25); d.roll(2) == 0 {
			list = append(list, entry{Kind: impl.HallBound, Number: 1, Team: team.Name, Resource: "copies", Amount: most})
			list = append(list, entry{Kind: impl.HallDraw, Number: 1, Door: "d1", Team: team.Name, Resource: "copies", Amount: 1 + most/2})
		}
	}
	return list
}

// hallStory leads on from the first books of a house by so many entries, of those who see one of the last books, and looks at each.
func (d *dice) hallStory(t *testing.T, h house, entries int, n *hallLife) []twoBooks {
	t.Helper()
	books := []twoBooks{impl.HallFirst(h)}
	begins := d.hallBegins(h)
	for i := range entries {
		b := books[len(books)-1]
		view := b
		if d.roll(4) == 0 {
			view = pick(d, books[max(0, len(books)-8):]...)
		}
		e := d.hallEntryFor(h, view)
		switch {
		case i < len(begins):
			e = begins[i]
		case d.roll(5) < 2:
			e = pick(d, hallAtSea(1, stewTickOf()), hallActed(1, d.hallActFor(view)))
		}
		next, said := impl.HallDo(h, b, e)
		n.goesOn(t, h, b, next, e, said)
		if said.Code == 0 {
			books = append(books, next)
		}
	}
	return books
}

// Promises 35 and 37 to 40.
func TestHallLives(t *testing.T) {
	t.Parallel()
	d := dice(350)
	var n hallLife
	for range 250 {
		h := d.hallTown()
		books := d.hallStory(t, h, 300, &n)
		for range 5 {
			if b := pick(&d, books...); !hallIsOk(h, b) {
				t.Fatalf("%+v", b)
			}
		}
	}
	for kind := impl.HallSlip; kind <= impl.HallSea; kind++ {
		if done := n.told.codes[kind][0]; done < 100 {
			t.Errorf("%d entries of Kind %d were done", done, kind)
		}
	}
	n.told.isAtLeast(t, map[int]map[int]int{impl.HallSlip: {2: 100, 3: 100, 4: 100, 5: 50, 6: 100, 7: 50, 9: 100, 10: 100, 11: 50, 12: 500, 15: 500}, impl.HallAct: {2: 100, 14: 1000}, impl.HallSea: {14: 100}})
	n.harmless.enough(t, 100, 50, 500, 100)
	if n.gifts < 5000 || n.full < 50 || n.went < 150 || n.kept < 1500 {
		t.Errorf("too few made-up cases: %d gifts, %d full ledgers, %d objects that went, %d that were kept", n.gifts, n.full, n.went, n.kept)
	}
}
