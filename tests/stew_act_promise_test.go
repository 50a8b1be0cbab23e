package tests

import (
	"slices"
	"testing"

	"loop.example/wharfdesk/impl"
)

// stewReading is the document's chapter on acts, read a second time: each code over the whole act, by itself, and then the book put together anew.
type stewReading struct {
	book impl.StewBook
	act  impl.StewAct
}

func stewAppliedBy(b impl.StewBook, a impl.StewAct) (impl.StewBook, int) {
	if !stewIsValid(b) {
		return impl.StewBook{}, 1
	}
	r := stewReading{b, a}
	for i, isSo := range []func() bool{r.notOk, r.missing, r.seenOther, r.mayNotEnd, r.cannotBe, r.tooMuch} {
		if isSo() {
			return b, 2 + i
		}
	}
	return r.behind(), 0
}

func (r stewReading) notOk() bool {
	a := r.act
	for i, end := range a.Ends {
		if i > 0 && a.Ends[i-1].Number >= end.Number {
			return true
		}
	}
	switch {
	case a.Create < 0 || a.Create > 20 || len(a.Ends) > 200:
		return true
	case !a.Scale && (a.Want != 0 || a.Cool != 0):
		return true
	case a.Scale && (a.Want < 0 || a.Want > 10 || a.Cool < 0 || a.Cool > 3):
		return true
	}
	return a.Drop && (a.Create != 0 || a.Scale || len(a.Ends) != 0)
}

func (r stewReading) service() (impl.StewService, bool) {
	for _, s := range r.book.Services {
		if s.Name == r.act.Service {
			return s, true
		}
	}
	return impl.StewService{}, false
}

// copies are those of the act's service.
func (r stewReading) copies() []impl.StewCopy {
	return slices.DeleteFunc(slices.Clone(r.book.Copies), func(c impl.StewCopy) bool { return c.Service != r.act.Service })
}

func (r stewReading) copy(number int) (impl.StewCopy, bool) {
	for _, c := range r.copies() {
		if c.Number == number {
			return c, true
		}
	}
	return impl.StewCopy{}, false
}

func (r stewReading) missing() bool {
	_, there := r.service()
	return !there || !all(r.act.Ends, func(end impl.StewEnd) bool {
		_, there := r.copy(end.Number)
		return there
	})
}

func (r stewReading) seenOther() bool {
	s, _ := r.service()
	return s.Version != r.act.Seen || !all(r.act.Ends, func(end impl.StewEnd) bool {
		c, _ := r.copy(end.Number)
		return c.Version == end.Seen
	})
}

// live are the service's copies that are not Ending once the act's first ends are.
func (r stewReading) live(ends int) []impl.StewCopy {
	return slices.DeleteFunc(r.copies(), func(c impl.StewCopy) bool {
		return c.Ending || slices.ContainsFunc(r.act.Ends[:ends], func(end impl.StewEnd) bool { return end.Number == c.Number })
	})
}

// stewReadyBut is how many are ready, one Number left out.
func stewReadyBut(list []impl.StewCopy, number int) int {
	n := 0
	for _, c := range list {
		if c.State == impl.StewReady && c.Number != number {
			n++
		}
	}
	return n
}

func (r stewReading) mayNotEnd() bool {
	s, _ := r.service()
	for i, end := range r.act.Ends {
		c, _ := r.copy(end.Number)
		live := r.live(i)
		if !slices.Contains(live, c) {
			return true
		}
		if c.State == impl.StewReady && !s.Gone && stewReadyBut(live, c.Number) < s.Want-s.Down {
			return true
		}
	}
	return false
}

func (r stewReading) cannotBe() bool {
	a := r.act
	s, _ := r.service()
	want := s.Want
	if a.Scale {
		want = a.Want
	}
	switch {
	case a.Drop && (!s.Gone || len(r.copies()) > 0):
		return true
	case a.Create != 0 && (s.Gone || len(r.live(len(a.Ends)))+a.Create > want+s.Over):
		return true
	}
	return a.Scale && (s.Per == 0 || a.Want < s.Least || a.Want > s.Most)
}

func (r stewReading) tooMuch() bool {
	s, _ := r.service()
	return len(r.book.Copies)+r.act.Create > 200 || s.Next+r.act.Create > 1000000 || r.book.Now == 1000000
}

func (r stewReading) behind() impl.StewBook {
	next := impl.StewBook{Now: r.book.Now + 1, Berths: r.book.Berths}
	for _, s := range r.book.Services {
		own := stewReading{r.book, impl.StewAct{Service: s.Name}}
		if s.Name == r.act.Service {
			own = r
		}
		if own.act.Drop {
			continue
		}
		copies := own.copies()
		if s.Name == r.act.Service {
			s, copies = r.turned(s, copies, next.Now)
		}
		next.Services = append(next.Services, s)
		next.Copies = append(next.Copies, copies...)
	}
	return next
}

// turned is the act's service, and its copies, in a version.
func (r stewReading) turned(s impl.StewService, copies []impl.StewCopy, version int) (impl.StewService, []impl.StewCopy) {
	for i := range copies {
		if slices.ContainsFunc(r.act.Ends, func(end impl.StewEnd) bool { return end.Number == copies[i].Number }) {
			copies[i].Ending, copies[i].Version = true, version
		}
	}
	for i := range r.act.Create {
		copies = append(copies, impl.StewCopy{Service: s.Name, Number: s.Next + i, Version: version, Image: s.Image, State: impl.StewWaiting})
	}
	s.Version, s.Next = version, s.Next+r.act.Create
	if r.act.Scale {
		s.Want, s.Cool = r.act.Want, r.act.Cool
	}
	return s, copies
}

// stewSeenIn is an act on a service of a book, with the Versions that the book has; what is not there keeps its own.
func stewSeenIn(b impl.StewBook, service string, a impl.StewAct) impl.StewAct {
	a.Service = service
	a.Ends = slices.Clone(a.Ends)
	r := stewReading{b, a}
	if s, there := r.service(); there {
		a.Seen = s.Version
	}
	for i := range a.Ends {
		if c, there := r.copy(a.Ends[i].Number); there {
			a.Ends[i].Seen = c.Version
		}
	}
	return a
}

// stewAct is one that a book may well allow, as it was seen in it.
func (d *dice) stewAct(b impl.StewBook) impl.StewAct {
	if len(b.Services) == 0 {
		return impl.StewAct{Service: "web", Seen: 1, Create: d.roll(3)}
	}
	s := pick(d, b.Services...)
	a := impl.StewAct{}
	if s.Gone && d.roll(2) == 0 {
		return stewSeenIn(b, s.Name, impl.StewAct{Drop: true})
	}
	if d.roll(3) > 0 {
		for _, c := range (stewReading{b, impl.StewAct{Service: s.Name}}).copies() {
			// Ready ones seldom: the more of them, the less of the act is done.
			if !c.Ending && (c.State != impl.StewReady && d.roll(2) == 0 || d.roll(5) == 0) {
				a.Ends = append(a.Ends, impl.StewEnd{Number: c.Number})
			}
		}
	}
	if s.Per > 0 && d.roll(2) == 0 {
		a.Scale, a.Want, a.Cool = true, s.Least+d.roll(s.Most-s.Least+1), d.roll(4)
	}
	if d.roll(3) == 0 {
		a.Create = d.roll(4)
	}
	return stewSeenIn(b, s.Name, a)
}

// stewSpoilAct changes one thing of an act, which may still be done then.
func (d *dice) stewSpoilAct(b impl.StewBook, a *impl.StewAct) {
	number := pick(d, -1, 0, 1, 2, 3, 4, 5, 10, 11, 20, 21)
	switch d.roll(10) {
	case 0:
		a.Service = pick(d, "", "a", "ab", "db", "web", "b2", "zz")
	case 1:
		a.Seen = pick(d, a.Seen-1, a.Seen+1, 0, b.Now)
	case 2:
		a.Create = number
	case 3:
		*pick(d, &a.Want, &a.Cool) = number
	case 4:
		a.Scale = !a.Scale
	case 5:
		a.Drop = !a.Drop
	case 6:
		swapTwo(d, a.Ends)
	case 7:
		a.Ends = append(a.Ends, impl.StewEnd{Number: 1 + d.roll(12), Seen: 1 + d.roll(b.Now)})
		slices.SortFunc(a.Ends, func(x, y impl.StewEnd) int { return x.Number - y.Number })
	default:
		if len(a.Ends) > 0 {
			end := &a.Ends[d.roll(len(a.Ends))]
			*pick(d, &end.Number, &end.Seen) += pick(d, -1, 1)
		}
	}
}

// stewAtEnds brings a valid book close to one of its ends, or to it.
func (d *dice) stewAtEnds(b *impl.StewBook) {
	switch d.roll(3) {
	case 0:
		b.Now = 999999 + d.roll(2)
	case 1:
		for i := range b.Services {
			b.Services[i].Next = 999998 + d.roll(3)
		}
	default:
		stewCrowded(b, 197+d.roll(4))
	}
}

// stewCrowded puts copies of the last service into a book until they are so many in all; they are Ending.
func stewCrowded(b *impl.StewBook, many int) {
	if len(b.Services) == 0 {
		return
	}
	s := &b.Services[len(b.Services)-1]
	for len(b.Copies) < many {
		b.Copies = append(b.Copies, impl.StewCopy{Service: s.Name, Number: s.Next, Version: 1, Image: 1, State: impl.StewWaiting, Ending: true})
		s.Next++
	}
}

func TestStewApplyMadeUp(t *testing.T) {
	t.Parallel()
	d := dice(101)
	var told [8]int
	for i := range 40000 {
		b := d.stewBook()
		if d.roll(12) == 0 {
			d.stewAtEnds(&b)
		}
		a := d.stewAct(b)
		for range d.roll(3) {
			d.stewSpoilAct(b, &a)
		}
		if d.roll(12) == 0 {
			d.stewSpoil(&b)
		}
		want, code := stewAppliedBy(b, a)
		got, gotCode := impl.StewApply(b, a)
		if gotCode != code || !same(got, want) {
			t.Fatalf("act %d: %d and %+v, not %d and %+v: %+v in %+v", i, gotCode, got, code, want, a, b)
		}
		// Of promise 14: it stays valid.
		if !stewIsValid(got) || code == 0 && got.Now != b.Now+1 {
			t.Fatalf("act %d: %+v became %+v by %+v", i, b, got, a)
		}
		told[code]++
	}
	for code, n := range told {
		if n < 200 {
			t.Errorf("code %d was told %d times alone", code, n)
		}
	}
}

// stewHarmless is promise 16: it counts the acts that ended ready ones, and those that created some, and of both how many did just what they may.
type stewHarmless struct {
	ended, onEdge, created, full int
}

// add looks at an act that was done.
func (n *stewHarmless) add(t *testing.T, b, next impl.StewBook, a impl.StewAct) {
	t.Helper()
	ahead, behind := stewReading{b, a}, stewReading{next, impl.StewAct{Service: a.Service}}
	s, _ := behind.service()
	live := behind.live(0)
	ready := stewReadyBut(live, 0)
	endedReady := slices.ContainsFunc(a.Ends, func(end impl.StewEnd) bool {
		c, _ := ahead.copy(end.Number)
		return c.State == impl.StewReady
	})
	if endedReady && !s.Gone && !a.Scale {
		n.ended++
		if ready < s.Want-s.Down {
			t.Fatalf("%d ready behind %+v: %+v", ready, a, next)
		}
		if ready == s.Want-s.Down {
			n.onEdge++
		}
	}
	if a.Create > 0 {
		n.created++
		if len(live) > s.Want+s.Over {
			t.Fatalf("%d live behind %+v: %+v", len(live), a, next)
		}
		if len(live) == s.Want+s.Over {
			n.full++
		}
	}
}

// enough says that there were so many of each.
func (n *stewHarmless) enough(t *testing.T, ended, onEdge, created, full int) {
	t.Helper()
	if n.ended < ended || n.onEdge < onEdge || n.created < created || n.full < full {
		t.Errorf("too few made-up cases: %d ended ready ones, %d just so; %d created, %d as many as may be", n.ended, n.onEdge, n.created, n.full)
	}
}

// Promise 16.
func TestStewNoHarm(t *testing.T) {
	t.Parallel()
	d := dice(102)
	var n stewHarmless
	for range 40000 {
		b := d.stewBook()
		for range 3 {
			a := d.stewAct(b)
			next, code := impl.StewApply(b, a)
			if code != 0 {
				continue
			}
			n.add(t, b, next, a)
			b = next
		}
	}
	n.enough(t, 1000, 300, 1000, 300)
}

// stewMeanwhile lets a book go on: acts, and what else may befall copies and services.
func (d *dice) stewMeanwhile(b impl.StewBook) impl.StewBook {
	for range d.roll(3) {
		b, _ = impl.StewApply(b, d.stewAct(b))
	}
	b = spread(b)
	if len(b.Copies) > 0 && d.roll(3) == 0 {
		at := d.roll(len(b.Copies))
		b.Now++
		if d.roll(2) == 0 {
			b.Copies = slices.Delete(b.Copies, at, at+1)
		} else {
			b.Copies[at].Image, b.Copies[at].Version = 1+d.roll(3), b.Now
		}
	}
	if len(b.Services) > 0 && d.roll(4) == 0 {
		at := d.roll(len(b.Services))
		b.Now++
		b.Services[at].Gone, b.Services[at].Version = !b.Services[at].Gone, b.Now
	}
	return b
}

// Promise 17.
func TestStewLate(t *testing.T) {
	t.Parallel()
	d := dice(103)
	var late, lateEnds, missed, done int
	for i := range 40000 {
		view := d.stewBook()
		a := d.stewAct(view)
		b := d.stewMeanwhile(view)
		if !impl.StewValid(b) {
			t.Fatalf("book %d is not valid: %+v", i, b)
		}
		next, code := impl.StewApply(b, a)
		now := stewReading{b, a}
		isMissing, isOther := now.missing(), !now.missing() && now.seenOther()
		if isMissing && code != 3 || isOther && code != 4 || code != 0 && !same(next, b) {
			t.Fatalf("%d: %+v in %+v", code, a, b)
		}
		if s, there := now.service(); there && s.Version == a.Seen && (isMissing || isOther) {
			lateEnds++
		}
		if isMissing {
			missed++
		}
		if isOther {
			late++
		}
		if code == 0 {
			done++
			stewTouchesItsOwn(t, b, next, a)
		}
	}
	if late < 1000 || lateEnds < 500 || missed < 500 || done < 3000 {
		t.Errorf("too few made-up cases: %d late, %d by their ends alone, %d missed, %d done", late, lateEnds, missed, done)
	}
}

// stewTouchesItsOwn says that an act that was done touched its service and its ends alone, beside what it created.
func stewTouchesItsOwn(t *testing.T, ahead, behind impl.StewBook, a impl.StewAct) {
	t.Helper()
	for _, s := range ahead.Services {
		if s.Name != a.Service && !slices.Contains(behind.Services, s) {
			t.Fatalf("%+v is not as it was behind %+v", s, a)
		}
	}
	kept := 0
	for _, c := range ahead.Copies {
		is := func(end impl.StewEnd) bool { return c.Service == a.Service && end.Number == c.Number }
		if !slices.ContainsFunc(a.Ends, is) {
			kept++
			if !slices.Contains(behind.Copies, c) {
				t.Fatalf("%+v is not as it was behind %+v", c, a)
			}
		}
	}
	services := len(ahead.Services)
	if a.Drop {
		services--
	}
	if len(behind.Services) != services || len(behind.Copies) != kept+len(a.Ends)+a.Create || !slices.Equal(behind.Berths, ahead.Berths) {
		t.Fatalf("%+v became %+v by %+v", ahead, behind, a)
	}
	of := func(version int) bool { return version == behind.Now }
	touched := 0
	for _, s := range behind.Services {
		if of(s.Version) {
			touched++
		}
	}
	for _, c := range behind.Copies {
		if of(c.Version) {
			touched++
		}
	}
	want := len(a.Ends) + a.Create
	if !a.Drop {
		want++
	}
	if touched != want {
		t.Fatalf("%d have the version of %+v, not %d: %+v", touched, a, want, behind)
	}
}

// Promise 23, and StewMayEnd as the first of an act's ends.
func TestStewMayEndMadeUp(t *testing.T) {
	t.Parallel()
	d := dice(104)
	free, allowed, barred, more := 0, 0, 0, 0
	for range 6000 {
		b := d.stewBook()
		for _, s := range b.Services {
			for number := range s.Next + 1 {
				r := stewReading{b, stewSeenIn(b, s.Name, impl.StewAct{Ends: []impl.StewEnd{{Number: number}}})}
				c, there := r.copy(number)
				may := impl.StewMayEnd(b, s.Name, number)
				if want := there && !r.mayNotEnd(); may != want {
					t.Fatalf("%v of %s %d in %+v", may, s.Name, number, b)
				}
				if there && (c.State != impl.StewReady || s.Gone) {
					free++
					if may != !c.Ending {
						t.Fatalf("%v of %+v in %+v", may, c, b)
					}
				}
				if there && !c.Ending && !may {
					barred++
				}
				if may {
					allowed++
					more += stewAllowsMore(t, b, c)
				}
			}
		}
	}
	if free < 10000 || allowed < 10000 || barred < 3000 || more < 10000 {
		t.Errorf("too few made-up cases: %d free, %d allowed, %d barred, %d with one more", free, allowed, barred, more)
	}
}

// stewAllowsMore says that a copy that may end may so if another one of the service becomes ready, whichever; how many there were is told.
func stewAllowsMore(t *testing.T, b impl.StewBook, c impl.StewCopy) int {
	t.Helper()
	if len(b.Berths) == 0 {
		return 0
	}
	n := 0
	for at, other := range b.Copies {
		if other.Service != c.Service || other.Number == c.Number || other.State == impl.StewReady {
			continue
		}
		next := b
		next.Copies = slices.Clone(b.Copies)
		next.Copies[at].State, next.Copies[at].Berth = impl.StewReady, b.Berths[0].Name
		if !impl.StewMayEnd(next, c.Service, c.Number) {
			t.Fatalf("%+v may not end once %+v is ready: %+v", c, other, b)
		}
		n++
	}
	return n
}
