package tests

import (
	"testing"

	"loop.example/wharfdesk/impl"
)

func (d *dice) hallNumberNear() int {
	return pick(d, 1, 2, 7, 400000, 1000000, 1+d.roll(1000000), 1+d.roll(1000000), 1+d.roll(1000000), 0, -1, 1000001)
}

// What a door makes of asks, by a second reading.
func TestHallSlipOfMadeUp(t *testing.T) {
	t.Parallel()
	d := dice(330)
	var told [17]int
	for i := range 3500 {
		h := d.hallTown()
		b := d.hallBooksOf(h)
		a, door, number := d.hallAskFor(h, b), pick(&d, "d1", "d2", "d3"), d.hallNumberNear()
		switch d.roll(20) {
		case 0:
			d.hallSpoilBooks(&b)
		case 1:
			door = pick(&d, "", "D", "d 1", letters(17))
		case 2:
			*pick(&d, &a.Who, &a.Kind, &a.Name, &a.Team, &a.Hold, &a.To) = pick(&d, "", "fleet", "A", letters(17))
		case 3:
			*pick(&d, &a.Verb, &a.Seen, &a.Number) = d.roll(9) - 1
		case 4:
			a.Holds = pick(&d, nil, texts{"fleet"}, texts{"fleet", "fleet"})
		}
		want, said := hallSlipBy(h, b, number, door, a)
		checkSlipOf(t, "made up", h, b, number, door, a, want, said)
		if t.Failed() {
			t.Fatalf("ask %d: %+v in %+v", i, a, b)
		}
		told[said.Code]++
	}
	for code, least := range map[int]int{0: 400, 1: 100, 2: 100, 3: 50, 4: 200, 5: 50, 6: 50, 7: 20, 9: 50, 11: 50, 15: 150, 16: 100} {
		if told[code] < least {
			t.Errorf("the Code %d was told %d times", code, told[code])
		}
	}
	if told[8] != 0 || told[10] != 0 || told[12] != 0 || told[14] != 0 {
		t.Errorf("told: %v", told)
	}
}

// hallIsFarFromEnds says that no Now, no Next and no number of copies is near its end.
func hallIsFarFromEnds(b twoBooks) bool {
	for _, s := range b.Stew.Services {
		if s.Next > 900000 {
			return false
		}
	}
	return b.Gate.Now <= 900000 && b.Stew.Now <= 900000 && len(b.Stew.Copies) <= 180
}

// hallDoneNext counts what became of what was told to be next, by Kind and Code.
type hallDoneNext struct {
	told    hallTold
	nothing int
}

// add is promise 43, and gives the books behind what is next, if it was done.
func (n *hallDoneNext) add(t *testing.T, h house, b twoBooks, number int) (twoBooks, bool) {
	t.Helper()
	e, ok := impl.HallNext(h, b, number)
	if !ok {
		n.nothing++
		return b, false
	}
	next, said := impl.HallDo(h, b, e)
	n.told.add(e.Kind, said)
	if said.Code == 0 {
		if same(next, b) {
			t.Fatalf("%+v changed nothing of %+v", e, b)
		}
		return next, true
	}
	atEnd := said == refused(11, 0) && e.Act.Drop || said == refused(14, 7) || said == refused(3, 0) && e.Kind == impl.HallSweep
	if !atEnd || hallIsFarFromEnds(b) || !same(next, b) {
		t.Fatalf("%+v: %+v became %+v by %+v", said, b, next, e)
	}
	return b, false
}

// What stewards ask for, and what is next, by a second reading, where it is brought in as long as there is something.
func TestHallNextMadeUp(t *testing.T) {
	t.Parallel()
	d := dice(331)
	var n hallDoneNext
	acts, notOk := 0, 0
	for i := range 150 {
		h := d.hallTown()
		b := d.hallBooksOf(h)
		if d.roll(8) == 0 {
			d.hallSpoilBooks(&b)
		}
		for range 30 {
			number := d.hallNumberNear()
			want, _ := hallNextBy(h, b, number)
			checkNext(t, "made up", h, b, number, hallFormAsRead(want))
			steward := d.roll(8)
			var forms texts
			for _, e := range hallActsBy(h, b, steward) {
				forms = append(forms, hallFormAsRead(e))
			}
			acts += len(forms)
			checkActs(t, "made up", h, b, steward, forms...)
			if t.Failed() {
				t.Fatalf("books %d: %+v", i, b)
			}
			if !hallIsOk(h, b) {
				notOk++
				break
			}
			next, done := n.add(t, h, b, 1+d.roll(1000000))
			if !done {
				break
			}
			b = next
		}
	}
	n.told.isAtLeast(t, map[int]map[int]int{impl.HallAct: {0: 1000}, impl.HallSweep: {0: 20}, impl.HallSea: {0: 100}})
	if n.nothing < 1 || acts < 500 || notOk < 10 {
		t.Errorf("too few made-up cases: %d without anything next, %d acts, %d not ok", n.nothing, acts, notOk)
	}
}

// Promise 43, from made-up books, many of which are near their ends, on to those in which nothing is left to do.
func TestHallNextIsDone(t *testing.T) {
	t.Parallel()
	d := dice(430)
	var n hallDoneNext
	for range 800 {
		h := d.hallTown()
		b := d.hallBooksOf(h)
		for range 150 {
			next, done := n.add(t, h, b, 1+d.roll(1000000))
			if !done {
				break
			}
			b = next
		}
	}
	n.told.isAtLeast(t, map[int]map[int]int{impl.HallAct: {0: 10000, 11: 10, 14: 100}, impl.HallSweep: {0: 300, 3: 20}, impl.HallSea: {0: 2000}})
	if n.nothing < 200 {
		t.Errorf("there was nothing left to do only %d times", n.nothing)
	}
}
