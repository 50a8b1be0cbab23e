package tests

import (
	"slices"
	"testing"

	"loop.example/wharfdesk/impl"
)

// slipped is the document's chapter on slips, as far as it tells how one is made.
func slipped(l impl.GateLaw, view impl.GateBook, door string, a ask) (slip, impl.GateSaid) {
	if !bookIsOk(l, view) || !names.MatchString(door) {
		return slip{}, refused(1, 0)
	}
	if !askIsOk(l, a) {
		return slip{}, refused(2, 0)
	}
	h := hearingOf(l, view, door, a)
	h.unpaid = true
	if said := h.refusal(); said.Code != 0 {
		return slip{}, said
	}
	return slip{Door: door, Ask: a, Given: view.Given, Wants: h.wants()}, impl.GateSaid{}
}

// wants are what an ask that can be done relies on.
func (h hearing) wants() []want {
	switch h.a.Verb {
	case impl.GateGive, impl.GateTake:
		return nil
	case impl.GateEnd, impl.GateLetGo:
		return []want{on(h.a.Kind, h.a.Name, h.old.Version)}
	}
	list := []want{on(h.a.Kind, h.a.Name, h.old.Version)}
	for _, link := range h.links() {
		if link.name != "" {
			list = append(list, on(link.kind, link.name, h.b.Objects[placeOf(h.b, link)].Version))
		}
	}
	return list
}

func slipIsOk(l impl.GateLaw, s slip) bool {
	wantIsOk := func(w want) bool {
		return names.MatchString(w.Kind) && names.MatchString(w.Name) && w.Version >= 0
	}
	return names.MatchString(s.Door) && askIsOk(l, s.Ask) && s.Given >= 0 && len(s.Wants) <= 8 && all(s.Wants, wantIsOk)
}

func isSo(b impl.GateBook, w want) bool {
	at := placeOf(b, thing{w.Kind, w.Name})
	if w.Version == 0 {
		return at < 0
	}
	return at >= 0 && b.Objects[at].Version == w.Version
}

// committed is the document's chapter on slips, as far as it tells what becomes of one.
func committed(l impl.GateLaw, b impl.GateBook, s slip) (impl.GateBook, impl.GateSaid) {
	if !bookIsOk(l, b) {
		return impl.GateBook{}, refused(1, 0)
	}
	if !slipIsOk(l, s) {
		return impl.GateBook{}, refused(2, 0)
	}
	if s.Given != b.Given {
		return b, late(0)
	}
	if at := slices.IndexFunc(s.Wants, func(w want) bool { return !isSo(b, w) }); at >= 0 {
		return b, late(at + 1)
	}
	return passed(l, b, s.Door, s.Ask)
}

// history is all books that there were, the last one being the book.
type history struct {
	l     impl.GateLaw
	books []impl.GateBook
}

func (h *history) book() impl.GateBook {
	return h.books[len(h.books)-1]
}

// become goes on with a book, if it is one of Code 0.
func (h *history) become(next impl.GateBook, code int) {
	if code == 0 {
		h.books = append(h.books, next)
	}
}

func (h *history) ask(door string, a ask) {
	next, said := impl.GatePass(h.l, h.book(), door, a)
	h.become(next, said.Code)
}

// view is one of the last books.
func (d *dice) view(h *history) impl.GateBook {
	return pick(d, h.books[max(0, len(h.books)-6):]...)
}

// lateAsk is rarely a gift or a take, behind which every slip is late; many of its links are set to what is there.
func (d *dice) lateAsk(l impl.GateLaw, view impl.GateBook) ask {
	a := d.portAsk(l, view)
	for a.Verb >= impl.GateGive && d.roll(8) > 0 {
		a = d.portAsk(l, view)
	}
	if !askIsOk(l, a) || len(a.Values) == 0 {
		return a
	}
	for i, f := range shapeOf(l.Shapes, a.Kind).Fields {
		there := slices.DeleteFunc(spread(view.Objects), func(o impl.GateObject) bool { return o.Kind != f.To || o.Ending })
		if len(there) > 0 && d.roll(3) > 0 {
			a.Values[i] = pick(d, there...).Name
		}
	}
	return a
}

// rival is an ask for one of the things that a slip relies on.
func (d *dice) rival(l impl.GateLaw, b impl.GateBook, s slip) ask {
	if len(s.Wants) == 0 {
		return d.lateAsk(l, b)
	}
	w := pick(d, s.Wants...)
	a := ask{Who: "root", Verb: pick(d, impl.GateChange, impl.GateEnd, impl.GateLetGo), Kind: w.Kind, Name: w.Name}
	at := placeOf(b, thing{w.Kind, w.Name})
	switch {
	case at < 0:
		return asks("root", s.Ask)
	case a.Verb == impl.GateChange:
		a.Values = b.Objects[at].Values
	case a.Verb == impl.GateLetGo:
		a.Hold = pick(d, append(slices.Clone(b.Objects[at].Holds), "h")...)
	}
	return a
}

// happens lets something happen to the book.
func (d *dice) happens(h *history, s slip) {
	switch d.roll(9) {
	case 0, 1:
		h.become(d.asked(h.l, h.book()).call(h.l, h.book()))
	case 2, 3:
		h.become(impl.GateSweep(h.l, h.book()))
	case 4:
		h.ask(pick(d, "d0", "d1", "d2"), d.rival(h.l, h.book(), s))
	default:
		h.ask(pick(d, "d0", "d1", "d2"), d.lateAsk(h.l, h.book()))
	}
}

// lateHistory begins with some of all, now and then with few versions left, or with little room.
func (d *dice) lateHistory() *history {
	l, b := d.port()
	if d.roll(6) == 0 {
		b.Now = max(b.Now, impl.GateMaxVersion-3-d.roll(6))
	}
	return &history{l, []impl.GateBook{b}}
}

// Promise 11. Slips are made of any views that there were, and brought behind whatever happened since.
func TestGateCommitLate(t *testing.T) {
	t.Parallel()
	d := dice(71)
	told := map[int]toldLate{}
	for range 1000 {
		h := d.lateHistory()
		for range 12 {
			view := d.view(h)
			a, door := d.lateAsk(h.l, view), pick(&d, "d0", "d1", "d2")
			s, said := impl.GateSlipOf(h.l, view, door, a)
			if expected, expectedSaid := slipped(h.l, view, door, a); said != expectedSaid || !same(s, expected) {
				t.Fatalf("%+v and %+v, not %+v and %+v, of %+v, %+v, %s, %+v", said, s, expectedSaid, expected, h.l, view, door, a)
			}
			for range d.roll(4) {
				d.happens(h, s)
			}
			if said.Code == 0 {
				next, said := checkLate(t, h.l, h.book(), s)
				h.become(next, said.Code)
				told[a.Verb] = told[a.Verb].with(said)
			}
		}
	}
	for verb, least := range map[int]toldLate{
		impl.GateMake:   {done: 500, tooDear: 200, cannot: 50, given: 100, object: 80, link: 80},
		impl.GateChange: {done: 500, tooDear: 5, cannot: 30, given: 80, object: 200, link: 30},
		impl.GateEnd:    {done: 200, cannot: 20, given: 40, object: 80},
		impl.GateLetGo:  {done: 40, cannot: 1, given: 5, object: 20},
		impl.GateGive:   {done: 50, cannot: 3, given: 5},
		impl.GateTake:   {done: 50, cannot: 1, given: 3},
	} {
		if !told[verb].isAtLeast(least) {
			t.Errorf("too few made-up cases of %d: %+v", verb, told[verb])
		}
	}
}

// toldLate counts what late slips were told.
type toldLate struct {
	done, tooDear, cannot int
	// Those of 12: the grants, the object that is asked for, and what a link names.
	given, object, link int
}

func (c toldLate) with(said impl.GateSaid) toldLate {
	switch {
	case said.Code == 0:
		c.done++
	case said.Code == 10:
		c.tooDear++
	case said.Code == 11:
		c.cannot++
	case said.Place == 0:
		c.given++
	case said.Place == 1:
		c.object++
	default:
		c.link++
	}
	return c
}

func (c toldLate) isAtLeast(least toldLate) bool {
	return c.done >= least.done && c.tooDear >= least.tooDear && c.cannot >= least.cannot &&
		c.given >= least.given && c.object >= least.object && c.link >= least.link
}

// checkLate brings a slip that was made of an older view.
func checkLate(t *testing.T, l impl.GateLaw, b impl.GateBook, s slip) (impl.GateBook, impl.GateSaid) {
	t.Helper()
	if !impl.GateSlipOk(l, s) || !slipIsOk(l, s) {
		t.Fatalf("not ok: %+v", s)
	}
	ahead := spread(b)
	got, said := impl.GateCommit(l, ahead, s)
	if !slices.Contains([]int{0, 10, 11, 12}, said.Code) {
		t.Fatalf("%+v, of %+v, %+v, %+v", said, l, b, s)
	}
	expected, expectedSaid := impl.GatePass(l, b, s.Door, s.Ask)
	if said.Code == 12 {
		expected, expectedSaid = b, said
	}
	if said != expectedSaid || !same(got, expected) {
		t.Fatalf("%+v and %+v, not %+v and %+v, of %+v, %+v, %+v", said, got, expectedSaid, expected, l, b, s)
	}
	if expected, expectedSaid = committed(l, b, s); said != expectedSaid || !same(got, expected) {
		t.Fatalf("%+v and %+v, not %+v and %+v, of %+v, %+v, %+v", said, got, expectedSaid, expected, l, b, s)
	}
	if !same(whole(ahead), whole(spread(b))) {
		t.Fatalf("%+v: the book was changed", s)
	}
	if !impl.GateBookOk(l, got) || !boundsHold(l, got) {
		t.Fatalf("%+v: not ok: %+v, %+v", s, l, got)
	}
	return got, said
}

// spoilSlip turns one part of a slip, sometimes to one that is ok too.
func (d *dice) spoilSlip(s *slip, b impl.GateBook) {
	var w *want
	if len(s.Wants) > 0 {
		w = &s.Wants[d.roll(len(s.Wants))]
	}
	switch d.roll(8) {
	case 0:
		s.Door = pick(d, "", "D", "d0", "d1", letters(17))
	case 1:
		s.Given = pick(d, -1, 0, s.Given-1, s.Given+1, b.Given, b.Now)
	case 2:
		d.spoilAsk(&s.Ask)
	case 3:
		s.Wants = slices.Repeat(append(s.Wants, on("k0", "none", 0)), 1+d.roll(5))
	case 4:
		if w != nil {
			w.Version = pick(d, 0, -1, w.Version+1, w.Version-1, b.Now)
		}
	case 5:
		if w != nil {
			w.Kind = pick(d, "", "K", "k0", "k1", "ship", letters(17))
		}
	case 6:
		if w != nil {
			w.Name = pick(d, "", "N", "none", letters(17))
		}
	case 7:
		if len(b.Objects) > 0 {
			o := pick(d, b.Objects...)
			s.Wants = append(s.Wants, on(o.Kind, o.Name, pick(d, 0, o.Version, o.Version)))
		}
	}
}

// Slips that no view gave, of laws and books of which some are not ok.
func TestGateCommitOfSpoiltSlips(t *testing.T) {
	t.Parallel()
	d := dice(72)
	counts := map[int]int{}
	for range 6000 {
		l, b := d.port()
		s := slip{Door: pick(&d, "d0", "d1"), Ask: d.lateAsk(l, b), Given: b.Given}
		if view, said := impl.GateSlipOf(l, b, s.Door, s.Ask); said.Code == 0 && d.roll(3) > 0 {
			s = view
		}
		for range d.roll(3) {
			d.spoilSlip(&s, b)
		}
		if d.roll(6) == 0 {
			d.spoil(&l, &b)
		}
		if got, expected := impl.GateSlipOk(l, s), impl.GateLawOk(l) && slipIsOk(l, s); got != expected {
			t.Fatalf("ok is %v of %+v, %+v", got, l, s)
		}
		expected, expectedSaid := committed(l, b, s)
		if got, said := impl.GateCommit(l, b, s); said != expectedSaid || !same(got, expected) {
			t.Fatalf("%+v and %+v, not %+v and %+v, of %+v, %+v, %+v", said, got, expectedSaid, expected, l, b, s)
		}
		if got, said := impl.GateSlipOf(l, b, s.Door, s.Ask); said.Code != 0 && !same(got, slip{}) || said.Code == 10 {
			t.Fatalf("%+v and %+v, of %+v, %+v, %+v", said, got, l, b, s)
		}
		counts[expectedSaid.Code]++
	}
	for code, least := range []int{500, 100, 500, 30, 100, 30, 10, 100, 10, 10, 100, 50, 200} {
		if counts[code] < least {
			t.Errorf("too few made-up cases: %v", counts)
			break
		}
	}
}
