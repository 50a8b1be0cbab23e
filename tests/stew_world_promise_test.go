package tests

import (
	"cmp"
	"slices"
	"testing"

	"loop.example/wharfdesk/impl"
)

// stewRemembered is all books of a world, its Book the last.
func stewRemembered(w impl.StewWorld) []impl.StewBook {
	return append(slices.Clone(w.Past), w.Book)
}

// stewWorldOf is a world of these books, as many of the last ones as it may remember.
func stewWorldOf(books []impl.StewBook) impl.StewWorld {
	last := len(books) - 1
	return impl.StewWorld{Past: books[max(0, last-8):last], Book: books[last]}
}

// stewWorldIsOk is the document's sentence on when a world is ok.
func stewWorldIsOk(w impl.StewWorld) bool {
	books := stewRemembered(w)
	return len(books) <= 8+1 && all(books, stewIsValid) && slices.IsSortedFunc(books, func(x, y impl.StewBook) int { return cmp.Compare(x.Now, y.Now) })
}

// stewMovedBy is the document's chapter on the world, read a second time: a world is the row of its books, which grows and is cut in the end.
func stewMovedBy(w impl.StewWorld, m impl.StewMove) (impl.StewWorld, []int) {
	if !stewWorldIsOk(w) {
		return impl.StewWorld{}, nil
	}
	return stewMovedOn(w, m)
}

// stewMovedOn takes the world to be ok.
func stewMovedOn(w impl.StewWorld, m impl.StewMove) (impl.StewWorld, []int) {
	books, book := stewRemembered(w), w.Book
	var codes []int
	put := func(next impl.StewBook, code int) {
		if next.Now != book.Now {
			book, books = next, append(books, next)
		}
		codes = append(codes, code)
	}
	if m.Steward < 1 || m.Steward > 6 {
		put(stewSeaBy(book, m.Event))
		return stewWorldOf(books), codes
	}
	view := books[max(0, len(w.Past)-max(0, m.Age))]
	for _, a := range stewAskedBy(m.Steward, view) {
		put(stewAppliedBy(book, a))
	}
	return stewWorldOf(books), codes
}

// stewRound is the moves of a calm round.
func stewRound(order []int) []impl.StewMove {
	moves := []impl.StewMove{{Event: stewTickOf()}}
	for _, kind := range append(slices.Clone(order), 1, 2, 3, 4, 5, 6) {
		if move := stewLook(kind, 0); kind >= 1 && kind <= 6 && !slices.Contains(moves, move) {
			moves = append(moves, move)
		}
	}
	return moves
}

func stewCalmBy(w impl.StewWorld, rounds int, order []int) impl.StewWorld {
	if !stewWorldIsOk(w) {
		return impl.StewWorld{}
	}
	for range max(0, min(rounds, 1000)) {
		for _, m := range stewRound(order) {
			w, _ = stewMovedOn(w, m)
		}
	}
	return w
}

// stewWorld is ok. Its Past is what the Book was, as moves have changed it; or it is books with nothing in common, or the Book otherwise, in the same Versions.
func (d *dice) stewWorld() impl.StewWorld {
	w := stewAlone(d.stewBook())
	d.stewKinder(&w.Book)
	if d.roll(10) == 0 {
		d.stewAtEnds(&w.Book)
	}
	switch d.roll(6) {
	case 0:
		for range d.roll(9) {
			w.Past = append(w.Past, d.stewBook())
		}
		slices.SortFunc(w.Past, func(x, y impl.StewBook) int { return cmp.Compare(x.Now, y.Now) })
		if len(w.Past) > 0 {
			w.Book.Now = max(w.Book.Now, w.Past[len(w.Past)-1].Now)
		}
	case 1, 2, 3:
		for range d.roll(9) {
			b := spread(w.Book)
			for range 3 + d.roll(6) {
				d.stewStir(&b)
			}
			w.Past = append(w.Past, b)
		}
	default:
		for range d.roll(14) {
			w, _ = impl.StewDo(w, d.stewMove(w))
		}
	}
	return w
}

func (d *dice) stewMove(w impl.StewWorld) impl.StewMove {
	m := impl.StewMove{Steward: 1 + d.roll(6), Age: pick(d, 0, 0, 0, 1, 1, 2, 3, d.roll(12)-2), Event: d.stewEvent(w.Book)}
	if d.roll(3) == 0 {
		m.Steward = pick(d, 0, 7, -1, 100)
	}
	if d.roll(6) == 0 {
		d.stewSpoilEvent(w.Book, &m.Event)
	}
	return m
}

// stewSpoilWorld changes one thing of a world, which may still be ok then.
func (d *dice) stewSpoilWorld(w *impl.StewWorld) {
	switch d.roll(5) {
	case 0:
		d.stewSpoil(&w.Book)
	case 1:
		swapTwo(d, w.Past)
	case 2:
		for len(w.Past) < 8+d.roll(2) {
			w.Past = append(w.Past, w.Book)
		}
	default:
		if len(w.Past) == 0 {
			return
		}
		b := &w.Past[d.roll(len(w.Past))]
		if d.roll(2) == 0 {
			d.stewSpoil(b)
		} else {
			b.Now += d.roll(5) - 2
		}
	}
}

func (d *dice) stewOrder() []int {
	var order []int
	for range d.roll(10) {
		order = append(order, d.roll(9)-1)
	}
	return order
}

// What a move leads to, by a second reading.
func TestStewDoMadeUp(t *testing.T) {
	t.Parallel()
	d := dice(141)
	var told [8]int
	var spoilt, mixed, forgotten, none int
	for i := range 12000 {
		w := d.stewWorld()
		if d.roll(8) == 0 {
			d.stewSpoilWorld(&w)
		}
		m := d.stewMove(w)
		isOk := stewWorldIsOk(w)
		if impl.StewWorldOk(w) != isOk {
			t.Fatalf("world %d: %v: %+v", i, !isOk, w)
		}
		want, codes := stewMovedBy(w, m)
		got, gotCodes := impl.StewDo(w, m)
		if !slices.Equal(gotCodes, codes) || !same(got, want) {
			t.Fatalf("world %d: %v and %+v, not %v and %+v: %+v in %+v", i, gotCodes, got, codes, want, m, w)
		}
		if !impl.StewWorldOk(got) {
			t.Fatalf("world %d: %+v became %+v by %+v", i, w, got, m)
		}
		switch {
		case !isOk:
			spoilt++
		case len(codes) == 0:
			none++
		case slices.Min(codes) == 0 && slices.Max(codes) > 0:
			mixed++
		}
		if len(w.Past) == 8 && got.Book.Now > w.Book.Now {
			forgotten++
		}
		if m.Steward >= 1 && m.Steward <= 6 {
			for _, code := range codes {
				told[code]++
			}
		}
	}
	for _, code := range []int{0, 3, 4, 5, 6, 7} {
		if told[code] < 50 {
			t.Errorf("code %d was told %d times alone", code, told[code])
		}
	}
	if spoilt < 300 || mixed < 150 || forgotten < 300 || none < 1000 {
		t.Errorf("too few made-up cases: %d not ok, %d done in part, %d that forget, %d that ask for nothing", spoilt, mixed, forgotten, none)
	}
}

// What calm rounds lead to, by a second reading.
func TestStewCalmMadeUp(t *testing.T) {
	t.Parallel()
	d := dice(142)
	spoilt, changed := 0, 0
	for i := range 1500 {
		w := d.stewWorld()
		if d.roll(8) == 0 {
			d.stewSpoilWorld(&w)
		}
		rounds, order := d.roll(7)-1, d.stewOrder()
		want := stewCalmBy(w, rounds, order)
		if got := impl.StewCalm(w, rounds, order); !same(got, want) {
			t.Fatalf("world %d: %+v, not %+v: %d rounds of %v in %+v", i, got, want, rounds, order, w)
		}
		if !stewWorldIsOk(w) {
			spoilt++
		} else if want.Book.Now > w.Book.Now+rounds {
			changed++
		}
	}
	if spoilt < 50 || changed < 500 {
		t.Errorf("too few made-up cases: %d not ok, %d in which stewards did something", spoilt, changed)
	}
}

// Promise 22.
func TestStewCalmInTwo(t *testing.T) {
	t.Parallel()
	d := dice(143)
	most, orders := 0, 0
	for i := range 700 {
		w := d.stewWorld()
		order := d.stewOrder()
		a, b := d.roll(12), d.roll(12)
		if i%100 == 0 {
			a = d.roll(1001)
			b = 1000 - a
			most++
		}
		half := impl.StewCalm(w, a, order)
		want := impl.StewCalm(w, a+b, order)
		if got := impl.StewCalm(half, b, order); !same(got, want) {
			t.Fatalf("world %d: %d and %d rounds of %v: %+v, not %+v", i, a, b, order, got, want)
		}
		if !same(impl.StewCalm(half, 0, order), half) || !same(impl.StewCalm(w, 0, order), w) {
			t.Fatalf("world %d: no rounds change it", i)
		}
		// Were the order forgotten on the way, it would be seen in so many.
		if !same(impl.StewCalm(half, b, nil), want) {
			orders++
		}
	}
	if most < 5 || orders < 50 {
		t.Errorf("too few made-up cases: %d with StewMaxCalm rounds, %d in which the order matters", most, orders)
	}
}

// stewWanted is a service that may be wished for, of all that there are.
func (d *dice) stewWanted(name string) impl.StewService {
	s := impl.StewService{Name: name, Gone: d.roll(6) == 0, Image: 1 + d.roll(4), Want: d.roll(11), Down: d.roll(3), Over: d.roll(3)}
	if d.roll(4) == 0 {
		*pick(d, &s.Down, &s.Over) = d.roll(11)
	}
	if s.Down+s.Over == 0 {
		*pick(d, &s.Down, &s.Over) = 1
	}
	if d.roll(3) == 0 {
		s.Per, s.Load, s.Least = 1+d.roll(20), d.roll(220), d.roll(11)
		s.Most = s.Least + d.roll(11-s.Least)
	}
	return s
}

// stewLife is a move of a world from nothing on; there are so many names of services.
func (d *dice) stewLife(w impl.StewWorld, names int) impl.StewMove {
	if d.roll(2) == 0 {
		return stewLook(1+d.roll(6), pick(d, 0, 0, 0, 1, 2, d.roll(12)-1))
	}
	name := string(rune('a' + d.roll(names)))
	berth := pick(d, "b1", "b2", "b3", "b4", "b5", "b6", "b7")
	e := stewTickOf()
	switch d.roll(9) {
	case 0, 1:
		e = stewWishOf(d.stewWanted(name))
	case 2, 3:
		if len(w.Book.Copies) > 0 {
			c := pick(d, w.Book.Copies...)
			e = stewFailOf(c.Service, c.Number)
		}
	case 4:
		e = stewRaiseOf(berth, d.roll(2) == 0)
	case 5:
		if d.roll(3) == 0 {
			e = stewSinkOf(berth)
		}
	case 6:
		e = stewLoadOf(name, d.roll(230))
	}
	return impl.StewMove{Event: e}
}

// stewLed is a world that StewDo has led to from nothing, with a berth that is not to be drained. On the way promises 14, 16 and 17 hold.
func (d *dice) stewLed(t *testing.T, moves int, n *stewHarmless) impl.StewWorld {
	t.Helper()
	w := impl.StewWorld{}
	names := 1 + d.roll(9)
	for range moves {
		m := d.stewLife(w, names)
		next, codes := impl.StewDo(w, m)
		stewGoesOn(t, w, next, m, codes, n)
		w = next
	}
	open := func(b impl.StewBerth) bool { return !b.Drain }
	for _, name := range []string{"b1", "b2", "b3", "b4", "b5", "b6"} {
		if !slices.ContainsFunc(w.Book.Berths, open) {
			w, _ = impl.StewDo(w, impl.StewMove{Event: stewRaiseOf(name, false)})
		}
	}
	return w
}

// stewGoesOn says of a move that the world stays ok and that each change has a Now of its own (promise 14), that what a steward did was no harm (16), was not late, and touched its own (17).
func stewGoesOn(t *testing.T, w, next impl.StewWorld, m impl.StewMove, codes []int, n *stewHarmless) {
	t.Helper()
	done := len(slices.DeleteFunc(slices.Clone(codes), func(code int) bool { return code != 0 }))
	if !impl.StewWorldOk(next) || next.Book.Now != w.Book.Now+done || done == 0 && !same(next, w) {
		t.Fatalf("%+v became %+v by %+v: %v", w, next, m, codes)
	}
	if m.Steward < 1 || m.Steward > 6 {
		return
	}
	books := stewRemembered(w)
	acts := impl.StewAsk(m.Steward, books[max(0, len(w.Past)-max(0, m.Age))])
	if len(acts) != len(codes) {
		t.Fatalf("%v of %+v", codes, acts)
	}
	book := w.Book
	for i, a := range acts {
		now := stewReading{book, a}
		isLate := now.missing() || now.seenOther()
		if isLate && codes[i] != 3 && codes[i] != 4 {
			t.Fatalf("%d: %+v in %+v", codes[i], a, book)
		}
		behind, _ := impl.StewApply(book, a)
		if codes[i] == 0 {
			stewTouchesItsOwn(t, book, behind, a)
			n.add(t, book, behind, a)
		}
		book = behind
	}
	if !same(book, next.Book) {
		t.Fatalf("%+v became %+v by %+v", w, next, m)
	}
}

// stewSettles is promises 20 and 21; how many rounds there were until the Book was done is told.
func stewSettles(t *testing.T, w impl.StewWorld, order []int, n *stewHarmless) int {
	t.Helper()
	rounds, v := 0, w
	for ; !impl.StewDone(v.Book); rounds++ {
		if rounds == 300 {
			t.Fatalf("%v: %+v became %+v", order, w, v)
		}
		for _, m := range stewRound(order) {
			next, codes := impl.StewDo(v, m)
			if slices.ContainsFunc(codes, func(code int) bool { return code != 0 }) {
				t.Fatalf("%v of %+v in %+v", codes, m, v)
			}
			stewGoesOn(t, v, next, m, codes, n)
			v = next
		}
	}
	if !same(impl.StewCalm(w, rounds, order), v) {
		t.Fatalf("%d rounds of %v are not the moves of which they consist: %+v", rounds, order, w)
	}
	for _, more := range []int{1, 300 - rounds} {
		later := impl.StewCalm(v, more, order)
		want := v.Book
		want.Now += more
		if !impl.StewDone(later.Book) || !same(later.Book, want) {
			t.Fatalf("%v: %+v became %+v", order, v, later)
		}
	}
	return rounds
}

// Promises 20 and 21, and 14, 16 and 17 through a world.
func TestStewLiveness(t *testing.T) {
	t.Parallel()
	d := dice(144)
	var n stewHarmless
	long, standing, least := 0, 0, 0
	for range 120 {
		w := d.stewLed(t, d.roll(200), &n)
		standing += len(w.Book.Copies)
		rounds := stewSettles(t, w, d.stewOrder(), &n)
		if rounds > 10 {
			long++
		}
		if rounds == 0 {
			least++
		}
	}
	if long < 40 || standing < 1000 || least > 60 {
		t.Errorf("too little: %d that took long, %d that took nothing, %d copies in the beginning", long, least, standing)
	}
	n.enough(t, 200, 100, 500, 200)
}

// stewLater is a world as if so many ticks had gone by ahead of it all, and each service had had so many copies more.
func stewLater(w impl.StewWorld, ticks, numbers int) impl.StewWorld {
	w = spread(w)
	later := func(b *impl.StewBook) {
		b.Now += ticks
		for i := range b.Services {
			b.Services[i].Version += ticks
			b.Services[i].Next += numbers
		}
		for i := range b.Copies {
			b.Copies[i].Version += ticks
			b.Copies[i].Number += numbers
		}
	}
	for i := range w.Past {
		later(&w.Past[i])
	}
	later(&w.Book)
	return w
}

// Promises 20 and 21 where Now and Next are as high as they say; it is all the same then.
func TestStewLivenessLate(t *testing.T) {
	t.Parallel()
	d := dice(145)
	var n stewHarmless
	for range 30 {
		w := d.stewLed(t, 20+d.roll(150), &n)
		next := 1
		for _, s := range w.Book.Services {
			next = max(next, s.Next)
		}
		ticks, numbers := 900000-w.Book.Now, 900000-next
		order := d.stewOrder()
		stewSettles(t, stewLater(w, ticks, numbers), order, &n)
		rounds := 1 + d.roll(30)
		if got, want := impl.StewCalm(stewLater(w, ticks, numbers), rounds, order), stewLater(impl.StewCalm(w, rounds, order), ticks, numbers); !same(got, want) {
			t.Fatalf("%+v, not %+v", got, want)
		}
	}
}

// stewGreatest is led to from nothing: all services that there may be, with all copies that they may want, old, and on berths all of which but one are to be drained; each may have so many down, and so many over.
func stewGreatest(t *testing.T, down, over int, follows bool) impl.StewWorld {
	t.Helper()
	w := impl.StewWorld{}
	do := func(e impl.StewEvent) {
		t.Helper()
		next, codes := impl.StewDo(w, impl.StewMove{Event: e})
		if !slices.Equal(codes, []int{0}) {
			t.Fatalf("%+v: %v", e, codes)
		}
		w = next
	}
	berths := []string{"b1", "b2", "b3", "b4", "b5", "b6"}
	for _, name := range berths {
		do(stewRaiseOf(name, false))
	}
	wish := func(image, load int) {
		for _, name := range []string{"a", "b", "c", "d", "e", "f", "g", "h"} {
			s := impl.StewService{Name: name, Image: image, Want: 10, Down: down, Over: over}
			if follows {
				s.Per, s.Most, s.Load = 1, 10, load
			}
			do(stewWishOf(s))
		}
	}
	wish(1, 10)
	w = impl.StewCalm(w, 5, nil)
	if len(w.Book.Copies) != 80 || !impl.StewDone(w.Book) {
		t.Fatalf("%+v", w.Book)
	}
	wish(1000000, 0)
	for _, name := range berths[:5] {
		do(stewRaiseOf(name, true))
	}
	return w
}

// Promises 20 and 21 where there is the most to do.
func TestStewLivenessGreatest(t *testing.T) {
	t.Parallel()
	var n stewHarmless
	most := 0
	for _, spare := range [][2]int{{1, 0}, {0, 1}, {1, 1}, {10, 0}, {0, 10}, {10, 10}, {3, 2}} {
		most = max(most, stewSettles(t, stewGreatest(t, spare[0], spare[1], false), nil, &n))
		most = max(most, stewSettles(t, stewGreatest(t, spare[0], spare[1], true), []int{6, 5, 4, 3, 2, 1}, &n))
	}
	if most < 25 {
		t.Errorf("%d rounds at most", most)
	}
}

// stewAnswer is all that is answered of a world.
type stewAnswer struct {
	World impl.StewWorld
	Told  []int
}

func (d *dice) stewQuestions(many int) []question[stewAnswer] {
	var list []question[stewAnswer]
	for i := range many {
		w := d.stewWorld()
		m, rounds, order := d.stewMove(w), d.roll(6), d.stewOrder()
		ask := stewDoing(w, m)
		if i%2 == 0 {
			ask = func() stewAnswer { return stewAnswer{World: impl.StewCalm(w, rounds, order)} }
		}
		list = append(list, questionOf(ask))
	}
	return list
}

func stewDoing(w impl.StewWorld, m impl.StewMove) func() stewAnswer {
	return func() stewAnswer {
		next, told := impl.StewDo(w, m)
		return stewAnswer{next, told}
	}
}

// An answer is the same each time, whoever else asks at that time, and the same things are handed in to all of them.
func TestStewWorldSideBySide(t *testing.T) {
	d := dice(146)
	askSideBySide(t, d.stewQuestions(120))
}

func TestStewWorldLeavesNobody(t *testing.T) {
	d := dice(147)
	noOrder := func() stewAnswer { return stewAnswer{World: impl.StewCalm(stewSince(1, 2), 3, nil)} }
	leavesNobody(t, append(d.stewQuestions(60), questionOf(stewDoing(stewSince(1, 2), stewLook(1, 0))), questionOf(noOrder)))
}
