package tests

import (
	"slices"
	"testing"

	"loop.example/wharfdesk/impl"
)

// hallRow is a row of texts in a house, with the books that each beginning of it leads to, and what each text was told where it stands first.
type hallRow struct {
	h     house
	texts texts
	books []twoBooks
	told  map[string]impl.GateSaid
}

func hallRowOf(h house) *hallRow {
	return &hallRow{h: h, books: []twoBooks{impl.HallFirst(h)}, told: map[string]impl.GateSaid{}}
}

func (r *hallRow) last() twoBooks {
	return r.books[len(r.books)-1]
}

// hallRows count what happened in rows.
type hallRows struct {
	life hallLife
	next hallDoneNext
	// again are texts that came again, of which these would have been something else by then; unread are those that are not read.
	again, other, unread int
	// late is what slips of older books were told, by Code, and stale those of books that were not the last.
	late  [17]int
	stale int
}

// put is promises 35 to 40, of one text more.
func (n *hallRows) put(t *testing.T, r *hallRow, text string) {
	t.Helper()
	b := r.last()
	next := b
	stands := slices.Contains(r.texts, text)
	e, isRead := impl.HallRead(text)
	if isRead && !stands {
		var said impl.GateSaid
		next, said = impl.HallDo(r.h, b, e)
		n.life.goesOn(t, r.h, b, next, e, said)
		r.told[text] = said
	}
	row := append(slices.Clone(r.texts), text)
	if stands {
		n.once(t, r, row, text)
	}
	if got, ok := impl.HallTold(r.h, row, text); got != r.told[text] || ok != isRead {
		t.Fatalf("%q is told %+v, %v behind %q, not %+v", text, got, ok, r.texts, r.told[text])
	}
	if !isRead {
		n.unread++
	}
	r.texts, r.books = row, append(r.books, next)
}

// once is promise 36, of a text that comes again.
func (n *hallRows) once(t *testing.T, r *hallRow, row texts, text string) {
	t.Helper()
	n.again++
	if got := impl.HallState(r.h, row); !same(got, r.last()) {
		t.Fatalf("%q, again, leads to %+v, not %+v", text, got, r.last())
	}
	was, _ := impl.HallTold(r.h, r.texts, text)
	if is, _ := impl.HallTold(r.h, row, text); is != was {
		t.Fatalf("%q, again, is told %+v, not %+v", text, is, was)
	}
	e, _ := impl.HallRead(text)
	if _, now := impl.HallDo(r.h, r.last(), e); now != was {
		n.other++
	}
}

// leads says that texts lead to the books that they led to one by one.
func (r *hallRow) leads(t *testing.T, many int) {
	t.Helper()
	if got := impl.HallState(r.h, r.texts[:many]); !same(got, r.books[many]) {
		t.Fatalf("%q lead to %+v, not %+v", r.texts[:many], got, r.books[many])
	}
}

// hallLateSlip is a slip of the books that some beginning leads to, if there is one.
func (d *dice) hallLateSlip(r *hallRow) (entry, bool) {
	at := d.roll(len(r.books))
	if d.roll(3) > 0 {
		at = max(0, len(r.books)-1-d.roll(12))
	}
	view := r.books[at]
	e, said := impl.HallSlipOf(r.h, view, 1+d.roll(1000000), pick(d, "d1", "d1", "d2", "d3"), d.hallAskFor(r.h, view))
	return e, said.Code == 0
}

// slips is promise 41.
func (n *hallRows) slips(t *testing.T, r *hallRow, e entry) {
	t.Helper()
	text := impl.HallForm(e)
	if slices.Contains(r.texts, text) {
		return
	}
	said, ok := impl.HallTold(r.h, append(slices.Clone(r.texts), text), text)
	if !ok || !slices.Contains([]int{0, 10, 11, 12, 14}, said.Code) {
		t.Fatalf("%q is told %+v, %v behind %q", text, said, ok, r.texts)
	}
	n.late[said.Code]++
	if e.Slip.Given != r.last().Gate.Given {
		n.stale++
	}
	_, passed := impl.GatePass(hallLawOf(r.h.Teams), r.last().Gate, e.Slip.Door, e.Slip.Ask)
	switch said.Code {
	case 12:
	case 14:
		if passed.Code != 0 {
			t.Fatalf("%q is told %+v, and by the gate %+v: %+v", text, said, passed, r.last())
		}
	default:
		if passed != said {
			t.Fatalf("%q is told %+v, and by the gate %+v: %+v", text, said, passed, r.last())
		}
	}
}

// Promise 41, of each code, the slip being made of the books that a beginning leads to.
func TestHallLate(t *testing.T) {
	ready, eight, kept := hallWebReady(), hallMadeIn(8, "1,2,,,,"), hallKeptIn(40)
	drawn := inOneRow("bound 1 dev copies 9", "draw 1 d1 dev copies 9")
	fleet := texts{"fleet"}
	makes := by("ann", asksMake("web", "dev", fleet, "1", "2", "", "", "", ""))
	owned := by("ann", asksMake("new", "dev", fleet, "1", "2", "", "", "", "web"))
	ends := by("ann", asksEnd("web", 0))
	gives := by("ann", asksGive("dan", gateRule{Verbs: []int{1}}))
	for _, c := range []struct {
		what string
		row  texts
		view int
		ask  ask
		said impl.GateSaid
	}{
		{"at once", ready, len(ready), ends, impl.GateSaid{Version: 5}},
		{"late, but nothing happened to it", ready, 2, ends, impl.GateSaid{Version: 5}},
		{"late, but other things alone happened", inOneRow(ready, "bound 1 ops copies 9", "slip 2 d1 3 new:0 ann make new dev fleet 1,2,,,,"), 2, ends, impl.GateSaid{Version: 6}},
		{"its purse is there", drawn, 0, makes, impl.GateSaid{Version: 4}},
		{"its purse came back", inOneRow(drawn, "back 1 d1 dev copies"), 2, makes, refused(10, 0)},
		{"a ledger came", texts{"bound 1 dev copies 9"}, 0, makes, refused(10, 0)},
		{"objects came", kept, 39 * 3, makes, refused(11, 0)},
		{"objects came, but one too few", kept[:39*3], 38 * 3, makes, impl.GateSaid{Version: 3 + 39*3 + 1}},
		{"there is one by now", ready, 1, makes, refused(12, 1)},
		{"it is another one by now", inOneRow(ready, "slip 2 d1 3 web:4 ann change web 0 1,3,,,,"), 5, ends, refused(12, 1)},
		{"its owner is another one by now", inOneRow(ready, "slip 2 d1 3 web:4 ann change web 0 1,3,,,,"), 5, owned, refused(12, 2)},
		{"there are other grants by now", inOneRow(ready, "slip 2 d1 3 * ann give dan 1 * * *"), 5, ends, refused(12, 0)},
		{"there are other grants by now, to give", inOneRow(ready, "slip 2 d1 3 * ann give dan 1 * * *"), 5, gives, refused(12, 0)},
		{"it is gone by now", inOneRow(hallSwept(), "sweep 1"), 1, ends, refused(12, 1)},
		{"a service came", eight, 7, makes, refused(14, 2)},
		{"as many services as may be, at once", eight, 8, makes, refused(14, 2)},
		{"a service came, but there is room", eight[:7], 6, makes, impl.GateSaid{Version: 11}},
	} {
		r := hallRowOf(hallHouse())
		var n hallRows
		for _, text := range c.row {
			n.put(t, r, text)
		}
		e, said := impl.HallSlipOf(r.h, r.books[c.view], 7, "d1", c.ask)
		if said.Code != 0 {
			t.Errorf("%s: no slip: %+v", c.what, said)
			continue
		}
		n.slips(t, r, e)
		checkTold(t, c.what, r.h, append(slices.Clone(c.row), impl.HallForm(e)), impl.HallForm(e), c.said, true)
	}
}

// hallText is one that comes next in a row.
func (d *dice) hallText(t *testing.T, r *hallRow, n *hallRows) string {
	t.Helper()
	view := r.books[max(0, len(r.books)-1-d.roll(4)*d.roll(3))]
	e := d.hallEntryFor(r.h, view)
	switch d.roll(12) {
	case 0:
		return pick(d, "", "no entry", "sea 0 tick", d.hallTurnBytes(impl.HallForm(e)), d.hallTurnWords(impl.HallForm(e)))
	case 1, 2:
		if len(r.texts) > 0 {
			return pick(d, r.texts...)
		}
	case 3, 4, 5, 6:
		n.next.add(t, r.h, r.last(), 1+d.roll(1000000))
		if next, ok := impl.HallNext(r.h, r.last(), 1+d.roll(1000000)); ok {
			e = next
		}
	case 7, 8:
		if slip, made := d.hallLateSlip(r); made {
			e = slip
		}
	case 9:
		if acts := impl.HallActs(r.h, view, 1+d.roll(6)); len(acts) > 0 {
			e = pick(d, acts...)
		}
	}
	return impl.HallForm(e)
}

// Promises 35 to 41 and 43, over rows of made-up texts.
func TestHallRows(t *testing.T) {
	t.Parallel()
	d := dice(360)
	var n hallRows
	for range 100 {
		r := hallRowOf(d.hallTown())
		for _, e := range d.hallBegins(r.h) {
			n.put(t, r, impl.HallForm(e))
		}
		for range 90 {
			n.put(t, r, d.hallText(t, r, &n))
			if d.roll(10) == 0 {
				r.leads(t, d.roll(len(r.books)))
			}
			if e, made := d.hallLateSlip(r); made {
				n.slips(t, r, e)
			}
		}
		r.leads(t, len(r.texts))
		checkState(t, "a row", r.h, r.texts, r.last())
	}
	n.enough(t)
}

func (n *hallRows) enough(t *testing.T) {
	t.Helper()
	for kind := impl.HallSlip; kind <= impl.HallSea; kind++ {
		if done := n.life.told.codes[kind][0]; done < 40 {
			t.Errorf("%d entries of Kind %d were done", done, kind)
		}
	}
	n.life.harmless.enough(t, 10, 5, 100, 20)
	if n.life.gifts < 1000 || n.life.full < 3 || n.life.went < 30 || n.life.kept < 60 {
		t.Errorf("too few made-up cases: %d gifts, %d full ledgers, %d objects that went, %d that were kept", n.life.gifts, n.life.full, n.life.went, n.life.kept)
	}
	if n.again < 800 || n.other < 300 || n.unread < 300 {
		t.Errorf("too few made-up cases: %d came again, %d of them to something else, %d were not read", n.again, n.other, n.unread)
	}
	for code, least := range map[int]int{0: 1000, 10: 150, 12: 500} {
		if n.late[code] < least {
			t.Errorf("the Code %d was told to %d late slips", code, n.late[code])
		}
	}
	if n.stale < 200 {
		t.Errorf("the grants were others for %d late slips", n.stale)
	}
	n.next.told.isAtLeast(t, map[int]map[int]int{impl.HallAct: {0: 400}, impl.HallSweep: {0: 20}, impl.HallSea: {0: 100}})
}

// Rows in which all that comes is what is next: they come to an end, as there is a berth for what is wanted.
func TestHallRowsComeToAnEnd(t *testing.T) {
	t.Parallel()
	d := dice(361)
	var n hallRows
	ended := 0
	for range 40 {
		r := hallRowOf(d.hallTown())
		for _, e := range d.hallBegins(r.h) {
			n.put(t, r, impl.HallForm(e))
		}
		for range 40 {
			n.put(t, r, impl.HallForm(d.hallEntryFor(r.h, r.last())))
		}
		n.put(t, r, "sea 1000000 raise b9")
		for number := range 400 {
			e, ok := impl.HallNext(r.h, r.last(), 500000+number)
			if !ok {
				ended++
				break
			}
			n.put(t, r, impl.HallForm(e))
			n.next.add(t, r.h, r.books[len(r.books)-2], 1)
		}
		r.leads(t, len(r.texts))
	}
	if ended != 40 {
		t.Errorf("%d rows came to an end", ended)
	}
}
