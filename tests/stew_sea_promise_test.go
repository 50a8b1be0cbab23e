package tests

import (
	"slices"
	"testing"

	"loop.example/wharfdesk/impl"
)

// stewSea is the document's chapter on the sea, read a second time: each event puts the book together anew.
type stewSea struct {
	book  impl.StewBook
	event impl.StewEvent
}

func stewSeaBy(b impl.StewBook, e impl.StewEvent) (impl.StewBook, int) {
	if !stewIsValid(b) {
		return impl.StewBook{}, 1
	}
	sea := stewSea{b, e}
	ways := map[int]func() (impl.StewBook, int){1: sea.ticks, 2: sea.wishes, 3: sea.fails, 4: sea.sinks, 5: sea.raises, 6: sea.loads}
	happen, there := ways[e.Kind]
	if !there {
		return b, 4
	}
	if b.Now == 1000000 {
		return b, 7
	}
	next, code := happen()
	if code != 0 {
		return b, code
	}
	next.Now++
	return next, 0
}

func (s stewSea) ticks() (impl.StewBook, int) {
	next := s.book
	next.Copies = nil
	for _, c := range s.book.Copies {
		if c.Ending {
			continue
		}
		if c.State == impl.StewStarting {
			c.State, c.Version = impl.StewReady, s.book.Now+1
		}
		next.Copies = append(next.Copies, c)
	}
	for i := range next.Copies {
		c := &next.Copies[i]
		if c.State != impl.StewWaiting {
			continue
		}
		if berth := stewEmptiest(next); berth != "" {
			c.State, c.Berth, c.Version = impl.StewStarting, berth, s.book.Now+1
		}
	}
	return next, 0
}

// stewEmptiest counts copies up until it finds a berth with just so many that is not to be drained; it is empty if there is none.
func stewEmptiest(b impl.StewBook) string {
	for many := range len(b.Copies) + 1 {
		for _, berth := range b.Berths {
			on := slices.DeleteFunc(slices.Clone(b.Copies), func(c impl.StewCopy) bool { return c.Berth != berth.Name })
			if len(on) == many && !berth.Drain {
				return berth.Name
			}
		}
	}
	return ""
}

func (s stewSea) wishes() (impl.StewBook, int) {
	w := s.event.Service
	wished := impl.StewService{Name: w.Name, Version: s.book.Now + 1, Gone: w.Gone, Image: w.Image, Want: w.Want, Down: w.Down, Over: w.Over, Next: 1, Per: w.Per, Least: w.Least, Most: w.Most, Load: w.Load}
	next := s.book
	next.Services = nil
	for _, other := range s.book.Services {
		if other.Name == w.Name {
			wished.Next = other.Next
		} else {
			next.Services = append(next.Services, other)
		}
	}
	next.Services = append(next.Services, wished)
	slices.SortFunc(next.Services, func(x, y impl.StewService) int { return slices.Compare([]byte(x.Name), []byte(y.Name)) })
	return next, s.codeOf(next)
}

// codeOf is 2 if the book would not be valid.
func (s stewSea) codeOf(next impl.StewBook) int {
	next.Now++
	if stewIsValid(next) {
		return 0
	}
	return 2
}

func (s stewSea) fails() (impl.StewBook, int) {
	next := s.book
	next.Copies = slices.Clone(s.book.Copies)
	for i, c := range next.Copies {
		if c.Service == s.event.Name && c.Number == s.event.Number && (c.State == 2 || c.State == 3) {
			next.Copies[i].State, next.Copies[i].Version = 4, s.book.Now+1
			return next, 0
		}
	}
	return next, 3
}

func (s stewSea) sinks() (impl.StewBook, int) {
	next := s.book
	next.Copies, next.Berths = nil, nil
	for _, c := range s.book.Copies {
		if c.State == impl.StewWaiting || c.Berth != s.event.Name {
			next.Copies = append(next.Copies, c)
		}
	}
	for _, berth := range s.book.Berths {
		if berth.Name != s.event.Name {
			next.Berths = append(next.Berths, berth)
		}
	}
	if len(next.Berths) == len(s.book.Berths) {
		return next, 3
	}
	return next, 0
}

func (s stewSea) raises() (impl.StewBook, int) {
	next := s.book
	next.Berths = slices.DeleteFunc(slices.Clone(s.book.Berths), func(berth impl.StewBerth) bool { return berth.Name == s.event.Name })
	next.Berths = append(next.Berths, impl.StewBerth{Name: s.event.Name, Drain: s.event.Flag})
	slices.SortFunc(next.Berths, func(x, y impl.StewBerth) int { return slices.Compare([]byte(x.Name), []byte(y.Name)) })
	return next, s.codeOf(next)
}

func (s stewSea) loads() (impl.StewBook, int) {
	next := s.book
	next.Services = slices.Clone(s.book.Services)
	for i, other := range next.Services {
		if other.Name == s.event.Name && other.Per != 0 {
			next.Services[i].Load, next.Services[i].Version = s.event.Number, s.book.Now+1
			return next, s.codeOf(next)
		}
	}
	return next, 3
}

// stewEvent is one that a book may well let happen; what it does not use is anything.
func (d *dice) stewEvent(b impl.StewBook) impl.StewEvent {
	e := impl.StewEvent{Kind: 1 + d.roll(6), Service: d.stewService(d.stewAnyName(), 9), Name: d.stewAnyName(), Number: d.stewAnyNumber(b), Flag: d.roll(2) == 0}
	switch e.Kind {
	case impl.StewWish:
		if len(b.Services) > 0 && d.roll(2) == 0 {
			e.Service.Name = pick(d, b.Services...).Name
		}
		e.Service.Version, e.Service.Next, e.Service.Cool = d.stewAnyNumber(b), d.stewAnyNumber(b), d.stewAnyNumber(b)
	case impl.StewFails:
		if len(b.Copies) > 0 {
			c := pick(d, b.Copies...)
			e.Name, e.Number = c.Service, c.Number
		}
	case impl.StewSink, impl.StewRaise:
		if len(b.Berths) > 0 && d.roll(2) == 0 {
			e.Name = pick(d, b.Berths...).Name
		}
	case impl.StewLoad:
		if len(b.Services) > 0 {
			e.Name = pick(d, b.Services...).Name
		}
	}
	return e
}

// stewSpoilEvent changes one thing of an event, which may still happen then.
func (d *dice) stewSpoilEvent(b impl.StewBook, e *impl.StewEvent) {
	s := &e.Service
	switch d.roll(6) {
	case 0:
		e.Kind = d.roll(10) - 1
	case 1:
		e.Name = d.stewAnyName()
	case 2:
		e.Number = d.stewAnyNumber(b)
	case 3:
		s.Name = d.stewAnyName()
	default:
		*pick(d, &s.Image, &s.Want, &s.Down, &s.Over, &s.Per, &s.Least, &s.Most, &s.Load) = d.stewAnyNumber(b)
	}
}

// stewFilled puts services and berths into a book until there are as many as may be, or nearly so; those of its own stay.
func (d *dice) stewFilled(b *impl.StewBook) {
	for _, name := range []string{"c", "c2", "d-", "e", "f", "g", "h", "i"} {
		if len(b.Services) < 7+d.roll(2) {
			b.Services = append(b.Services, d.stewService(name, b.Now))
		}
		if len(b.Berths) < 5+d.roll(2) {
			b.Berths = append(b.Berths, impl.StewBerth{Name: name, Drain: d.roll(2) == 0})
		}
	}
	slices.SortFunc(b.Services, func(x, y impl.StewService) int { return slices.Compare([]byte(x.Name), []byte(y.Name)) })
	slices.SortFunc(b.Berths, func(x, y impl.StewBerth) int { return slices.Compare([]byte(x.Name), []byte(y.Name)) })
}

// Promise 14, of events, and what they lead to by a second reading.
func TestStewSeaMadeUp(t *testing.T) {
	t.Parallel()
	d := dice(121)
	var told [7][8]int
	var codes [8]int
	for i := range 60000 {
		b := d.stewBook()
		if d.roll(6) == 0 {
			d.stewFilled(&b)
		}
		if d.roll(12) == 0 {
			d.stewAtEnds(&b)
		}
		e := d.stewEvent(b)
		for range d.roll(3) {
			d.stewSpoilEvent(b, &e)
		}
		if d.roll(12) == 0 {
			d.stewSpoil(&b)
		}
		want, code := stewSeaBy(b, e)
		got, gotCode := impl.StewSea(b, e)
		if gotCode != code || !same(got, want) {
			t.Fatalf("event %d: %d and %+v, not %d and %+v: %+v in %+v", i, gotCode, got, code, want, e, b)
		}
		switch {
		case !stewIsValid(got) || code == 0 && got.Now != b.Now+1:
			t.Fatalf("event %d: %+v became %+v by %+v", i, b, got, e)
		case code == 1 && !same(got, impl.StewBook{}) || code > 1 && !same(got, b):
			t.Fatalf("event %d: code %d, and %+v became %+v by %+v", i, code, b, got, e)
		}
		codes[code]++
		if e.Kind >= 1 && e.Kind <= 6 {
			told[e.Kind][code]++
		}
	}
	for _, code := range []int{0, 1, 2, 3, 4, 7} {
		if codes[code] < 300 {
			t.Errorf("code %d was told %d times alone", code, codes[code])
		}
	}
	for kind, codes := range map[int][]int{1: {0, 1, 7}, 2: {0, 1, 2, 7}, 3: {0, 1, 3, 7}, 4: {0, 1, 3, 7}, 5: {0, 1, 2, 7}, 6: {0, 1, 2, 3, 7}} {
		for _, code := range codes {
			if told[kind][code] < 30 {
				t.Errorf("code %d of Kind %d was told %d times alone", code, kind, told[kind][code])
			}
		}
	}
}

// Promise 14, from nothing on: events, and what stewards ask for, one behind the other.
func TestStewSeaHistories(t *testing.T) {
	t.Parallel()
	d := dice(122)
	happened, done, standing := 0, 0, 0
	for range 800 {
		b := impl.StewBook{}
		for range 80 {
			next, code := b, 0
			if d.roll(3) == 0 {
				acts := impl.StewAsk(1+d.roll(6), b)
				if len(acts) == 0 {
					continue
				}
				next, code = impl.StewApply(b, pick(&d, acts...))
				done++
			} else {
				e := d.stewEvent(b)
				if d.roll(2) == 0 {
					e = stewTickOf()
				}
				next, code = impl.StewSea(b, e)
				happened++
			}
			if !impl.StewValid(next) || code == 0 && next.Now != b.Now+1 || code != 0 && !same(next, b) {
				t.Fatalf("code %d: %+v became %+v", code, b, next)
			}
			b = next
		}
		standing += len(b.Copies)
	}
	if happened < 10000 || done < 2000 || standing < 500 {
		t.Errorf("too little: %d events, %d acts, %d copies in the end", happened, done, standing)
	}
}

// Promise 17, where it is an event that came between: it gives a new Version to whatever it changes.
func TestStewSeaLate(t *testing.T) {
	t.Parallel()
	d := dice(123)
	late, missed, done := 0, 0, 0
	for range 30000 {
		view := d.stewBook()
		a := d.stewAct(view)
		b, _ := impl.StewSea(view, d.stewEvent(view))
		next, code := impl.StewApply(b, a)
		now := stewReading{b, a}
		isMissing, isOther := now.missing(), !now.missing() && now.seenOther()
		if isMissing && code != 3 || isOther && code != 4 || code != 0 && !same(next, b) {
			t.Fatalf("%d: %+v in %+v", code, a, b)
		}
		if isMissing {
			missed++
		}
		if isOther {
			late++
		}
		if code == 0 {
			done++
			stewTouchesItsOwn(t, b, next, a)
		}
	}
	if late < 1000 || missed < 300 || done < 3000 {
		t.Errorf("too few made-up cases: %d late, %d missed, %d done", late, missed, done)
	}
}
