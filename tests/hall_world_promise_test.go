package tests

import (
	"reflect"
	"slices"
	"strconv"
	"testing"

	"loop.example/wharfdesk/impl"
)

// hallLivelyEntry is mostly one that is done in books, and brings something about.
func (d *dice) hallLivelyEntry(h house, b twoBooks) entry {
	next, found := impl.HallNext(h, b, 500001+d.roll(900))
	for range 6 {
		e, said := impl.HallSlipOf(h, b, 1+d.roll(500000), "d1", d.hallAskFor(h, b))
		if _, done := impl.HallDo(h, b, e); said.Code+done.Code == 0 && d.roll(3) > 0 {
			return e
		}
		if found && d.roll(3) == 0 {
			return next
		}
	}
	return d.hallEntryFor(h, b)
}

// hallRowOfTexts is a row of forms of entries, each by the books that those ahead of it lead to, with some texts among them that count for nothing.
func (d *dice) hallRowOfTexts(h house, many int) texts {
	row := texts{"sea 1 raise b1"}
	e, _ := impl.HallRead(row[0])
	b, _ := impl.HallDo(h, impl.HallFirst(h), e)
	for len(row) <= many {
		e := d.hallLivelyEntry(h, b)
		if next, said := impl.HallDo(h, b, e); said.Code == 0 {
			b = next
		}
		row = append(row, impl.HallForm(e))
		if d.roll(8) == 0 {
			row = append(row, pick(d, "time "+strconv.Itoa(1+d.roll(1000000)), "", "no entry", row[0]))
		}
	}
	return row
}

// hallRecKnowing has a row in common, of which each knows a part.
func (d *dice) hallRecKnowing(row texts) impl.RecWorld {
	w := impl.RecWorld{}
	of := 1 + d.roll(5)
	for number := 1; number <= of; number++ {
		disk := impl.RecDisk{Promise: 9}
		for _, text := range row[:max(0, len(row)-d.roll(4)*d.roll(3))] {
			disk.Slots = append(disk.Slots, recSlot(9, text))
		}
		disk.Known = len(disk.Slots) - pick(d, 0, 0, 0, 0, 0, 0, 1, 2)*min(1, len(disk.Slots)/2)
		r := impl.Recorder{Number: number, Of: of, Up: d.roll(5) > 0, Safe: disk, Disk: disk}
		if r.Up && d.roll(2) == 0 {
			r.Lead, r.Ballot = true, 9-d.roll(3)
		}
		for i := range d.roll(3) * d.roll(6) / 5 {
			if r.Up {
				r.Wishes = append(r.Wishes, "sweep "+strconv.Itoa(1+i))
			}
		}
		w.Recorders = append(w.Recorders, spread(r))
	}
	if d.roll(4) == 0 {
		w.Flight = slices.Repeat([]impl.RecMessage{{Kind: impl.RecRefuse, From: 1, To: 1}}, 600)
	}
	w.Fixed = recNotedAsRead(w)
	return w
}

// hallRecMadeUp is a made-up world of recorders, whose texts are those of a row.
func (d *dice) hallRecMadeUp(row texts) impl.RecWorld {
	w := spread(d.recWorld())
	words := map[string]string{"": ""}
	for i, word := range []string{"a", "b", "ab", "c", "\xff", letters(160)} {
		words[word] = word
		if at := len(row) - 1 - i; at >= 0 && row[at] != "" && !slices.Contains(row[at+1:], row[at]) {
			words[word] = row[at]
		}
	}
	var turn func(v reflect.Value)
	turn = func(v reflect.Value) {
		if v.Kind() == reflect.String && words[v.String()] != "" {
			v.SetString(words[v.String()])
		}
		eachPart(v, false, turn)
	}
	turn(reflect.ValueOf(&w).Elem())
	return w
}

// hallSomeAsked are texts that are waited for, or were; most that was heard is what a row tells.
func (d *dice) hallSomeAsked(h house, row texts, now int) []impl.HallAsked {
	var list []impl.HallAsked
	for range d.roll(14) {
		a := impl.HallAsked{Text: "time " + strconv.Itoa(1+d.roll(90)), From: d.roll(now + 1)}
		if len(row) > 0 && d.roll(3) > 0 {
			a.Text = pick(d, row...)
		}
		said, told := impl.HallTold(h, row, a.Text)
		if a.From < now && (told && d.roll(2) > 0 || d.roll(30) == 0) {
			a.To, a.Said = a.From+1+d.roll(now-a.From), said
			if d.roll(12) == 0 {
				*pick(d, &a.Said.Code, &a.Said.Place, &a.Said.Version)++
			}
		}
		isThere := slices.ContainsFunc(list, func(other impl.HallAsked) bool { return other.Text == a.Text })
		if hallIsForm(a.Text) && !isThere && len(list) < 12 {
			list = append(list, a)
		}
	}
	return list
}

// hallMadeUpWorld is ok; nothing need lead to it.
func (d *dice) hallMadeUpWorld() hallWorld {
	w := hallWorld{House: d.hallTown(), Now: d.roll(60)}
	row := d.hallRowOfTexts(w.House, d.roll(16))
	if d.roll(3) > 0 {
		w.Rec = d.hallRecKnowing(row)
	} else {
		w.Rec = d.hallRecMadeUp(row)
	}
	w.Asked = d.hallSomeAsked(w.House, hallFixedBy(w), w.Now)
	return w
}

// hallSpoilWorld changes one thing of a world, which may still be ok then.
func (d *dice) hallSpoilWorld(w *hallWorld) {
	switch d.roll(6) {
	case 0:
		w.House = d.hallAnyHouse()
	case 1:
		d.recSpoilWorld(&w.Rec)
	case 2:
		w.Now = pick(d, -1, 0, 1, 1000000)
	case 3:
		swapTwo(d, w.Rec.Fixed)
	default:
		if len(w.Asked) == 0 {
			w.Asked = append(w.Asked, hallTimes(pick(d, 1, 12, 13))...)
			return
		}
		a := &w.Asked[d.roll(len(w.Asked))]
		*pick(d, &a.From, &a.To, &a.Said.Code, &a.Said.Version) = pick(d, -1, 0, 1, w.Now-1, w.Now, w.Now+1)
		a.Text = pick(d, a.Text, a.Text, w.Asked[0].Text, "no entry", "")
	}
}

// hallStewardFor is mostly one that has something to do in books.
func (d *dice) hallStewardFor(h house, b twoBooks) int {
	for _, steward := range []int{6, 4, 2, 5, 3, 1} {
		if len(impl.HallActs(h, b, steward)) > 0 && d.roll(6) > 0 {
			return steward
		}
	}
	return d.roll(8)
}

// hallAnyEvent is one that may happen in a world, or may not.
func (d *dice) hallAnyEvent(w hallWorld) hallEvent {
	e := hallEvent{Kind: 11 + d.roll(4), A: d.roll(len(w.Rec.Recorders))}
	view := impl.HallView(w, e.A)
	switch e.Kind {
	case impl.HallAsks:
		e.Entry = d.hallEntryFor(w.House, view)
		if d.roll(4) == 0 {
			e.Entry.Number = pick(d, 0, 1, 499999, 500000, 500001, 1000000, 1000001)
		}
		if len(w.Asked) > 0 && d.roll(4) == 0 {
			e.Entry, _ = impl.HallRead(pick(d, w.Asked...).Text)
		}
	case impl.HallThrough:
		e.B, e.Door = pick(d, 1, 7, 1+d.roll(500000), 499999, 500000, 500001, 0), pick(d, "d1", "d1", "d1", "d1", "d1", "d2", "D")
		for code := 1; code != 0; {
			var said impl.GateSaid
			e.Ask = d.hallAskFor(w.House, view)
			_, said = impl.HallSlipOf(w.House, view, 1, "d1", e.Ask)
			code = said.Code * min(1, d.roll(6))
		}
	case impl.HallSteward:
		e.B = d.hallStewardFor(w.House, view)
	case impl.HallHear:
		e.B = d.roll(len(w.Asked)+3) - 1
		for b, a := range w.Asked {
			if a.To == 0 && slices.Contains(impl.RecBook(w.Rec.Recorders[e.A]), a.Text) && d.roll(3) > 0 {
				e.B = b
			}
		}
	}
	switch d.roll(12) {
	case 0:
		e.Kind = d.roll(17) - 1
	case 1:
		e.A = pick(d, -1, len(w.Rec.Recorders), 5, 6)
	case 2:
		rec := d.recWorldEvent(w.Rec)
		e.Kind, e.A = rec.Kind, rec.A
	}
	return e
}

// hallSteps count what events did.
type hallSteps struct {
	changed, kept map[int]int
	heard, asked  int
}

func (n *hallSteps) add(w, next hallWorld, kind int) {
	next.Now = w.Now
	if same(next, w) {
		n.kept[kind]++
	} else {
		n.changed[kind]++
	}
	if len(next.Asked) > len(w.Asked) {
		n.asked++
		return
	}
	for b, a := range w.Asked {
		if next.Asked[b].To > a.To {
			n.heard++
		}
	}
}

// What an event leads to in a made-up world, spoilt now and then, by the second reading; and all else that is told of it.
func TestHallStepMadeUp(t *testing.T) {
	t.Parallel()
	d := dice(3401)
	n := hallSteps{changed: map[int]int{}, kept: map[int]int{}}
	spoilt := 0
	var right, done [2]int
	count := func(counts *[2]int, is bool) {
		if is {
			counts[0]++
		} else {
			counts[1]++
		}
	}
	for i := range 2000 {
		w := d.hallMadeUpWorld()
		e := d.hallAnyEvent(w)
		if d.roll(8) == 0 {
			d.hallSpoilWorld(&w)
		}
		isOk := hallWorldIsOk(w)
		if impl.HallWorldOk(w) != isOk {
			t.Fatalf("world %d: %v: %+v", i, !isOk, w)
		}
		got := impl.HallStep(w, e)
		if want := hallSteppedBy(w, e); !same(got, want) {
			t.Fatalf("world %d, %+v in %+v:\n%+v, not\n%+v", i, e, w, got, want)
		}
		if impl.HallWorldOk(got) != isOk {
			t.Fatalf("world %d: %+v became %+v by %+v", i, w, got, e)
		}
		for _, x := range []hallWorld{w, got} {
			if !slices.Equal(impl.HallFixed(x), hallFixedBy(x)) || impl.HallRight(x) != hallIsRightBy(x) || impl.HallDone(x) != hallIsDoneBy(x) {
				t.Fatalf("world %d: fixed: %q, right: %v, done: %v: %+v", i, impl.HallFixed(x), impl.HallRight(x), impl.HallDone(x), x)
			}
		}
		if !isOk {
			spoilt++
			continue
		}
		count(&right, impl.HallRight(w))
		count(&done, impl.HallDone(w))
		n.add(w, got, e.Kind)
	}
	for kind := impl.HallAsks; kind <= impl.HallHear; kind++ {
		if n.changed[kind] < 40 || n.kept[kind] < 40 {
			t.Errorf("Kind %d changed something %d times, and nothing %d times", kind, n.changed[kind], n.kept[kind])
		}
	}
	if spoilt < 100 || n.heard < 60 || n.asked < 200 || min(right[0], right[1]) < 300 || min(done[0], done[1]) < 100 {
		t.Errorf("too few made-up cases: %d not ok, %d heard, %d asked, %v right and not, %v done and not", spoilt, n.heard, n.asked, right, done)
	}
}

// What calm rounds lead to, by the second reading.
func TestHallCalmMadeUp(t *testing.T) {
	t.Parallel()
	d := dice(3402)
	spoilt, brought, quiet := 0, 0, 0
	for i := range 700 {
		w := d.hallMadeUpWorld()
		if d.roll(10) == 0 {
			d.hallSpoilWorld(&w)
		}
		rounds := d.roll(8) - 1
		got := impl.HallCalm(w, rounds)
		if want := hallCalmedBy(w, rounds); !same(got, want) {
			t.Fatalf("world %d, %d rounds of %+v:\n%+v, not\n%+v", i, rounds, w, got, want)
		}
		if impl.HallWorldOk(got) != hallWorldIsOk(w) {
			t.Fatalf("world %d: %+v became %+v", i, w, got)
		}
		switch {
		case !hallWorldIsOk(w):
			spoilt++
		case same(got.Rec, impl.RecCalm(w.Rec, rounds)):
			quiet++
		default:
			brought++
		}
	}
	if spoilt < 20 || brought < 60 || quiet < 150 {
		t.Errorf("too few made-up cases: %d not ok, %d in which something was brought in, %d in which nothing was", spoilt, brought, quiet)
	}
}

// Arguments stay as they are, and answers are new memory, whatever happens; asked twice, it is the same.
func TestHallWorldMemory(t *testing.T) {
	t.Parallel()
	d := dice(3403)
	for range 250 {
		w := spread(d.hallMadeUpWorld())
		e, rounds, at := spread(d.hallAnyEvent(w)), d.roll(5), d.roll(len(w.Rec.Recorders))
		worldWas, eventWas := whole(w), whole(e)
		stepped, calmed, view, fixed := impl.HallStep(w, e), impl.HallCalm(w, rounds), impl.HallView(w, at), impl.HallFixed(w)
		newMemory(t, "HallStep", stepped, w, e)
		newMemory(t, "HallCalm", calmed, w)
		newMemory(t, "HallView", view, w)
		newMemory(t, "HallFixed", fixed, w)
		newMemory(t, "all of them", struct {
			Stepped, Calmed hallWorld
			View            twoBooks
			Fixed           texts
		}{stepped, calmed, view, fixed})
		right, done := impl.HallRight(w), impl.HallDone(w)
		if !same(whole(w), worldWas) || !same(whole(e), eventWas) {
			t.Fatalf("the world or the event is changed: %+v, %+v", w, e)
		}
		if !same(impl.HallStep(w, e), stepped) || !same(impl.HallCalm(w, rounds), calmed) || impl.HallRight(w) != right || impl.HallDone(w) != done {
			t.Fatalf("twice, and another answer: %+v, %d rounds, %+v", e, rounds, w)
		}
	}
}

func (d *dice) hallQuestions(many int) []question[hallWorld] {
	var list []question[hallWorld]
	for i := range many {
		w := d.hallMadeUpWorld()
		e, rounds := d.hallAnyEvent(w), 1+d.roll(5)
		ask := func() hallWorld { return impl.HallCalm(w, rounds) }
		if i%3 > 0 {
			ask = func() hallWorld { return impl.HallStep(w, e) }
		}
		list = append(list, questionOf(ask))
	}
	return list
}

// An answer is the same each time, however those at work come to their turns, and whoever else asks at that time.
func TestHallWorldSideBySide(t *testing.T) {
	d := dice(3404)
	askSideBySide(t, d.hallQuestions(90))
}

func TestHallWorldLeavesNobody(t *testing.T) {
	d := dice(3405)
	none := func() hallWorld { return impl.HallStep(hallWorld{}, hallEvent{Kind: impl.HallSteward, B: 1}) }
	noRounds := func() hallWorld { return impl.HallCalm(hallWorld{}, 3) }
	leavesNobody(t, append(d.hallQuestions(60), questionOf(none), questionOf(noRounds)))
}
