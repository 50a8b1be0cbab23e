package tests

import (
	"slices"
	"testing"

	"loop.example/wharfdesk/impl"
)

// stewRankedBy is the document's sentence on ranks, number by number.
func stewRankedBy(b impl.StewBook) []int {
	ranks := make([]int, 5)
	if !stewIsValid(b) {
		return ranks
	}
	serviceOf := func(name string) impl.StewService {
		return b.Services[slices.IndexFunc(b.Services, func(s impl.StewService) bool { return s.Name == name })]
	}
	for _, s := range b.Services {
		if s.Gone {
			ranks[0]++
			continue
		}
		live := stewCountedOf(b, s.Name).Live
		ranks[2] += max(live, s.Want) - min(live, s.Want)
	}
	for _, c := range b.Copies {
		s := serviceOf(c.Service)
		if c.Ending || s.Gone {
			ranks[1]++
		}
		if !c.Ending && (c.Image != s.Image || stewIsLeaving(b, c)) {
			ranks[3]++
		}
		if !c.Ending && c.State != impl.StewReady {
			ranks[4]++
		}
	}
	return ranks
}

// stewDoneBy is the document's sentence on when a book is done.
func stewDoneBy(b impl.StewBook) bool {
	return stewIsValid(b) && all(b.Services, func(s impl.StewService) bool {
		own := (stewReading{b, impl.StewAct{Service: s.Name}}).copies()
		good := func(c impl.StewCopy) bool {
			return !c.Ending && c.Image == s.Image && c.State == impl.StewReady && !stewIsLeaving(b, c)
		}
		if s.Gone || len(own) != s.Want || !all(own, good) {
			return false
		}
		return s.Per == 0 || s.Want == (stewAsking{view: b, service: s}).demand() && s.Cool == 0
	})
}

// stewFollowed is promise 18's word on load: all that follow it have the Want that it asks for, and Cool 0.
func stewFollowed(b impl.StewBook) bool {
	return all(b.Services, func(s impl.StewService) bool {
		return s.Per == 0 || s.Want == (stewAsking{view: b, service: s}).demand() && s.Cool == 0
	})
}

// stewCalmBook is done.
func (d *dice) stewCalmBook() impl.StewBook {
	b := d.stewBook()
	b.Berths = append(b.Berths, impl.StewBerth{Name: "z"})
	open := slices.DeleteFunc(slices.Clone(b.Berths), func(berth impl.StewBerth) bool { return berth.Drain })
	b.Copies = nil
	for i := range b.Services {
		s := &b.Services[i]
		s.Gone, s.Cool, s.Next = false, 0, 1
		if s.Per > 0 {
			s.Want = (stewAsking{view: b, service: *s}).demand()
		}
		for range s.Want {
			s.Next += d.roll(3)
			b.Copies = append(b.Copies, impl.StewCopy{Service: s.Name, Number: s.Next, Version: 1 + d.roll(b.Now), Image: s.Image, State: impl.StewReady, Berth: pick(d, open...).Name})
			s.Next++
		}
	}
	return b
}

// stewStir changes one thing of a book, after which it may be done no longer; it stays valid.
func (d *dice) stewStir(b *impl.StewBook) {
	if len(b.Services) > 0 {
		s := &b.Services[d.roll(len(b.Services))]
		switch d.roll(9) {
		case 0:
			s.Want = min(10, s.Want+1)
		case 1:
			s.Want = max(0, s.Want-1)
		case 2:
			s.Gone = !s.Gone
		case 3:
			s.Image = 1 + d.roll(3)
		case 4:
			if s.Per > 0 {
				*pick(d, &s.Cool, &s.Load) = d.roll(4)
			}
		}
	}
	if len(b.Copies) > 0 {
		at := d.roll(len(b.Copies))
		c := &b.Copies[at]
		switch d.roll(9) {
		case 0:
			c.Ending = !c.Ending
		case 1:
			c.Image = 1 + d.roll(3)
		case 2:
			c.State, c.Berth = impl.StewWaiting, ""
		case 3, 4:
			if len(b.Berths) > 0 {
				c.State, c.Berth = 2+d.roll(3), pick(d, b.Berths...).Name
			}
		case 5:
			b.Copies = slices.Delete(b.Copies, at, at+1)
		}
	}
	if len(b.Berths) > 0 && d.roll(6) == 0 {
		berth := &b.Berths[d.roll(len(b.Berths))]
		berth.Drain = !berth.Drain
	}
}

// Promises 18 and 19, and ranks by a second reading.
func TestStewDoneMadeUp(t *testing.T) {
	t.Parallel()
	d := dice(131)
	var done, spoilt, byLoad, rest int
	var alone [5]int
	for i := range 60000 {
		b := d.stewCalmBook()
		switch d.roll(6) {
		case 0:
			b = d.stewBook()
		case 1:
			d.stewSpoil(&b)
		case 2, 3, 4:
			d.stewStir(&b)
		}
		isValid, want := stewIsValid(b), stewDoneBy(b)
		ranks := impl.StewRank(b)
		if !slices.Equal(ranks, stewRankedBy(b)) {
			t.Fatalf("book %d: %v, not %v: %+v", i, ranks, stewRankedBy(b), b)
		}
		noneEnds := all(b.Copies, func(c impl.StewCopy) bool { return !c.Ending })
		settled := slices.Equal(ranks, make([]int, 5))
		if got := impl.StewDone(b); got != want || got != (isValid && settled && noneEnds && stewFollowed(b)) {
			t.Fatalf("book %d: %v: %+v", i, got, b)
		}
		switch {
		case want:
			done++
			stewStaysDone(t, "a made-up book", b)
		case !isValid:
			spoilt++
		case settled:
			byLoad++
		default:
			rest++
			for place := range alone {
				others := slices.Delete(slices.Clone(ranks), place, place+1)
				if slices.Equal(others, make([]int, 4)) {
					alone[place]++
				}
			}
		}
	}
	if done < 5000 || spoilt < 1000 || byLoad < 300 || rest < 5000 || slices.Min(alone[:]) < 100 {
		t.Errorf("too few made-up cases: %d done, %d not valid, %d that do not follow their load, %d others, of which by one number alone: %v", done, spoilt, byLoad, rest, alone)
	}
}

// Promise 19, of books that stewards and ticks have led to: once nothing is left to ask for, it is done, and stays so.
func TestStewDoneComesAbout(t *testing.T) {
	t.Parallel()
	d := dice(132)
	reached := 0
	for range 400 {
		b := d.stewBook()
		for range 60 {
			if impl.StewDone(b) {
				break
			}
			b, _ = impl.StewSea(b, stewTickOf())
			for kind := impl.StewCounter; kind <= impl.StewDrainer; kind++ {
				for _, a := range impl.StewAsk(kind, b) {
					b, _ = impl.StewApply(b, a)
				}
			}
		}
		if !impl.StewDone(b) {
			continue
		}
		reached++
		if !stewDoneBy(b) || !slices.Equal(impl.StewRank(b), make([]int, 5)) {
			t.Fatalf("done: %+v", b)
		}
		stewStaysDone(t, "a book that came to it", b)
	}
	if reached < 100 {
		t.Errorf("%d came to it alone", reached)
	}
}
