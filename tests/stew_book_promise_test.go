package tests

import (
	"fmt"
	"regexp"
	"slices"
	"testing"

	"loop.example/wharfdesk/impl"
)

var stewNames = regexp.MustCompile(`\A[a-z0-9-]{1,20}\z`)

// stewServiceIsValid is the document's second point on when a book is valid, of one service.
func stewServiceIsValid(b impl.StewBook, s impl.StewService) bool {
	in := func(least, most int, numbers ...int) bool {
		return all(numbers, func(n int) bool { return n >= least && n <= most })
	}
	switch {
	case !stewNames.MatchString(s.Name) || !in(1, b.Now, s.Version) || !in(1, 1000000, s.Image, s.Next):
		return false
	case !in(0, 10, s.Want, s.Down, s.Over, s.Least, s.Most) || s.Down == 0 && s.Over == 0:
		return false
	case !in(0, 1000000, s.Per, s.Load) || s.Least > s.Most || !in(0, 3, s.Cool):
		return false
	}
	return s.Per != 0 || s.Least == 0 && s.Most == 0 && s.Load == 0 && s.Cool == 0
}

// stewCopyIsValid is the third, of one copy.
func stewCopyIsValid(b impl.StewBook, c impl.StewCopy) bool {
	of := func(s impl.StewService) bool { return s.Name == c.Service && c.Number >= 1 && c.Number < s.Next }
	on := func(berth impl.StewBerth) bool { return berth.Name == c.Berth }
	if !slices.ContainsFunc(b.Services, of) || c.Version < 1 || c.Version > b.Now || c.Image < 1 || c.Image > 1000000 {
		return false
	}
	if c.State == 1 {
		return c.Berth == ""
	}
	return slices.Contains([]int{2, 3, 4}, c.State) && c.Berth != "" && slices.ContainsFunc(b.Berths, on)
}

// stewIsValid is the document's list of when a book is valid.
func stewIsValid(b impl.StewBook) bool {
	if b.Now < 0 || b.Now > 1000000 || len(b.Services) > 8 || len(b.Copies) > 200 || len(b.Berths) > 6 {
		return false
	}
	if !all(b.Services, func(s impl.StewService) bool { return stewServiceIsValid(b, s) }) {
		return false
	}
	if !all(b.Copies, func(c impl.StewCopy) bool { return stewCopyIsValid(b, c) }) {
		return false
	}
	if !all(b.Berths, func(berth impl.StewBerth) bool { return stewNames.MatchString(berth.Name) }) {
		return false
	}
	// Numbers are of one length here, so that their order is that of their texts.
	return ascendingKeys(b.Services, func(s impl.StewService) []string { return []string{s.Name} }) &&
		ascendingKeys(b.Copies, func(c impl.StewCopy) []string { return []string{c.Service, fmt.Sprintf("%07d", c.Number)} }) &&
		ascendingKeys(b.Berths, func(berth impl.StewBerth) []string { return []string{berth.Name} })
}

// stewCountedOf is the document's sentence on what is counted, number by number.
func stewCountedOf(b impl.StewBook, service string) impl.StewCount {
	at := slices.IndexFunc(b.Services, func(s impl.StewService) bool { return s.Name == service })
	if !stewIsValid(b) || at < 0 {
		return impl.StewCount{}
	}
	many := func(counts func(impl.StewCopy) bool) int {
		n := 0
		for _, c := range b.Copies {
			if c.Service == service && counts(c) {
				n++
			}
		}
		return n
	}
	return impl.StewCount{
		Live:   many(func(c impl.StewCopy) bool { return !c.Ending }),
		Ready:  many(func(c impl.StewCopy) bool { return !c.Ending && c.State == impl.StewReady }),
		Old:    many(func(c impl.StewCopy) bool { return !c.Ending && c.Image != b.Services[at].Image }),
		Failed: many(func(c impl.StewCopy) bool { return !c.Ending && c.State == impl.StewFailed }),
		Ending: many(func(c impl.StewCopy) bool { return c.Ending }),
	}
}

func (d *dice) stewService(name string, now int) impl.StewService {
	s := impl.StewService{Name: name, Version: 1 + d.roll(now), Gone: d.roll(5) == 0, Image: 1 + d.roll(3), Want: d.roll(6), Next: 1 + d.roll(12)}
	s.Down, s.Over = d.roll(3), d.roll(3)
	if s.Down+s.Over == 0 {
		s.Over = 1
	}
	if d.roll(2) == 0 {
		s.Per, s.Least, s.Load, s.Cool = 1+d.roll(20), d.roll(4), d.roll(100), d.roll(4)
		s.Most = s.Least + d.roll(4)
	}
	return s
}

func (d *dice) stewCopy(s impl.StewService, number int, b impl.StewBook) impl.StewCopy {
	c := impl.StewCopy{Service: s.Name, Number: number, Version: 1 + d.roll(b.Now), Image: 1 + d.roll(3), State: 1 + d.roll(4), Ending: d.roll(4) == 0}
	if len(b.Berths) == 0 {
		c.State = impl.StewWaiting
	}
	if c.State != impl.StewWaiting {
		c.Berth = pick(d, b.Berths...).Name
	}
	return c
}

// stewBook is valid.
func (d *dice) stewBook() impl.StewBook {
	b := impl.StewBook{Now: 1 + d.roll(30)}
	for _, name := range []string{"b", "b-1", "b2", "web"} {
		if d.roll(3) > 0 {
			b.Berths = append(b.Berths, impl.StewBerth{Name: name, Drain: d.roll(3) == 0})
		}
	}
	for _, name := range []string{"a", "a-b", "ab", "db", "web"} {
		if d.roll(3) == 0 {
			continue
		}
		s := d.stewService(name, b.Now)
		b.Services = append(b.Services, s)
		for number := 1; number < s.Next; number++ {
			if d.roll(3) > 0 {
				b.Copies = append(b.Copies, d.stewCopy(s, number, b))
			}
		}
	}
	return b
}

// stewAnyNumber is at an edge, most of the time.
func (d *dice) stewAnyNumber(b impl.StewBook) int {
	return pick(d, -1, 0, 0, 1, 2, 3, 4, 5, 9, 10, 11, b.Now, b.Now+1, 1000000, 1000001)
}

func (d *dice) stewAnyName() string {
	return pick(d, "", "a", "a-b", "ab", "b", "b-1", "b2", "db", "web", "zz", "A", "a b", letters(20), letters(21))
}

func (d *dice) stewSpoilService(b *impl.StewBook) {
	if len(b.Services) == 0 {
		return
	}
	s := &b.Services[d.roll(len(b.Services))]
	if d.roll(8) == 0 {
		s.Name = d.stewAnyName()
		return
	}
	*pick(d, &s.Version, &s.Image, &s.Want, &s.Down, &s.Over, &s.Next, &s.Per, &s.Least, &s.Most, &s.Load, &s.Cool) = d.stewAnyNumber(*b)
}

func (d *dice) stewSpoilCopy(b *impl.StewBook) {
	if len(b.Copies) == 0 {
		return
	}
	c := &b.Copies[d.roll(len(b.Copies))]
	switch d.roll(4) {
	case 0:
		c.Service = d.stewAnyName()
	case 1:
		c.Berth = d.stewAnyName()
	default:
		*pick(d, &c.Number, &c.Version, &c.Image, &c.State) = d.stewAnyNumber(*b)
	}
}

func (d *dice) stewSpoilBerth(b *impl.StewBook) {
	if len(b.Berths) == 0 {
		return
	}
	berth := &b.Berths[d.roll(len(b.Berths))]
	berth.Name = d.stewAnyName()
}

// stewSpoil changes one thing of a book, which may still be valid then.
func (d *dice) stewSpoil(b *impl.StewBook) {
	switch d.roll(10) {
	case 0:
		b.Now = d.stewAnyNumber(*b)
	case 1:
		swapTwo(d, b.Services)
	case 2:
		swapTwo(d, b.Copies)
	case 3:
		swapTwo(d, b.Berths)
	case 4, 5:
		d.stewSpoilCopy(b)
	case 6:
		d.stewSpoilBerth(b)
	default:
		d.stewSpoilService(b)
	}
}

// Of promise 18: what a valid book is, and what is counted of a service's copies.
func TestStewValidMadeUp(t *testing.T) {
	t.Parallel()
	d := dice(91)
	valid, broken := 0, 0
	for i := range 30000 {
		b := d.stewBook()
		if !impl.StewValid(b) {
			t.Fatalf("book %d is not valid: %+v", i, b)
		}
		for range d.roll(3) {
			d.stewSpoil(&b)
		}
		want := stewIsValid(b)
		if want {
			valid++
		} else {
			broken++
		}
		if got := impl.StewValid(b); got != want {
			t.Fatalf("book %d: %v: %+v", i, got, b)
		}
		for _, service := range []string{"a", "a-b", "ab", "db", "web", "b2", ""} {
			if got, counted := impl.StewCountOf(b, service), stewCountedOf(b, service); got != counted {
				t.Fatalf("book %d: %+v of %q, not %+v: %+v", i, got, service, counted, b)
			}
		}
	}
	if valid < 8000 || broken < 8000 {
		t.Errorf("%d valid, %d not: too few of one", valid, broken)
	}
}
