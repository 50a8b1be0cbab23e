package tests

import (
	"slices"
	"testing"

	"loop.example/wharfdesk/impl"
)

// stewAsking is the document's chapter on stewards, read a second time, of one service of a valid view.
type stewAsking struct {
	view    impl.StewBook
	service impl.StewService
	live    []impl.StewCopy
}

func stewIsLeaving(b impl.StewBook, c impl.StewCopy) bool {
	return slices.ContainsFunc(b.Berths, func(berth impl.StewBerth) bool { return berth.Name == c.Berth && berth.Drain })
}

// stewFirstOf sorts copies as the document puts them, by marks of which the lower one goes first.
func stewFirstOf(b impl.StewBook, s impl.StewService, copies []impl.StewCopy) impl.StewCopy {
	mark := func(isSo bool) int {
		if isSo {
			return 0
		}
		return 1
	}
	marks := func(c impl.StewCopy) []int {
		return []int{mark(c.State != impl.StewReady), mark(c.Image != s.Image), mark(stewIsLeaving(b, c)), -c.Number}
	}
	sorted := slices.SortedFunc(slices.Values(copies), func(x, y impl.StewCopy) int { return slices.Compare(marks(x), marks(y)) })
	return sorted[0]
}

func stewAskedBy(kind int, view impl.StewBook) []impl.StewAct {
	if !stewIsValid(view) {
		return nil
	}
	var acts []impl.StewAct
	for _, s := range view.Services {
		r := stewReading{view, impl.StewAct{Service: s.Name}}
		asking := stewAsking{view, s, r.live(0)}
		ways := map[int]func() *impl.StewAct{1: asking.counts, 2: asking.waves, 3: asking.mends, 4: asking.scales, 5: asking.sweeps, 6: asking.drains}
		ask, there := ways[kind]
		if !there {
			return nil
		}
		if act := ask(); act != nil {
			acts = append(acts, stewSeenIn(view, s.Name, *act))
		}
	}
	return acts
}

func (a stewAsking) some(holds func(impl.StewCopy) bool) []impl.StewCopy {
	return slices.DeleteFunc(slices.Clone(a.live), func(c impl.StewCopy) bool { return !holds(c) })
}

func (a stewAsking) old() []impl.StewCopy {
	return a.some(func(c impl.StewCopy) bool { return c.Image != a.service.Image })
}

func (a stewAsking) leaving() []impl.StewCopy {
	return a.some(func(c impl.StewCopy) bool { return stewIsLeaving(a.view, c) })
}

func (a stewAsking) may(c impl.StewCopy) bool {
	return impl.StewMayEnd(a.view, a.service.Name, c.Number)
}

func (a stewAsking) ends(copies []impl.StewCopy) *impl.StewAct {
	act := impl.StewAct{}
	for _, c := range copies {
		act.Ends = append(act.Ends, impl.StewEnd{Number: c.Number})
	}
	if len(act.Ends) == 0 {
		return nil
	}
	return &act
}

func (a stewAsking) counts() *impl.StewAct {
	l, want, over := len(a.live), a.service.Want, a.service.Over
	o, b := len(a.old()), len(a.leaving())
	if a.service.Gone {
		return nil
	}
	if l < want {
		return &impl.StewAct{Create: want - l}
	}
	if l > want && (o == 0 && b == 0 || l > want+over) {
		if first := stewFirstOf(a.view, a.service, a.live); a.may(first) {
			return a.ends([]impl.StewCopy{first})
		}
	}
	return nil
}

// replaces is what the waver and the drainer have in common.
func (a stewAsking) replaces(these []impl.StewCopy) *impl.StewAct {
	if len(a.live) < a.service.Want+a.service.Over {
		return &impl.StewAct{Create: 1}
	}
	may := slices.DeleteFunc(these, func(c impl.StewCopy) bool { return !a.may(c) })
	if len(may) == 0 {
		return nil
	}
	return a.ends([]impl.StewCopy{stewFirstOf(a.view, a.service, may)})
}

func (a stewAsking) waves() *impl.StewAct {
	if a.service.Gone || len(a.old()) == 0 || len(a.live) < a.service.Want {
		return nil
	}
	return a.replaces(a.old())
}

func (a stewAsking) drains() *impl.StewAct {
	if a.service.Gone || len(a.old()) > 0 || len(a.leaving()) == 0 || len(a.live) < a.service.Want {
		return nil
	}
	return a.replaces(a.leaving())
}

func (a stewAsking) mends() *impl.StewAct {
	return a.ends(a.some(func(c impl.StewCopy) bool { return c.State == impl.StewFailed }))
}

// demand counts copies up until they bear the load, or are as many as may be.
func (a stewAsking) demand() int {
	s := a.service
	d := s.Least
	for d < s.Most && d*s.Per < s.Load {
		d++
	}
	return d
}

func (a stewAsking) scales() *impl.StewAct {
	s, to := a.service, func(want, cool int) *impl.StewAct { return &impl.StewAct{Scale: true, Want: want, Cool: cool} }
	if s.Gone || s.Per == 0 {
		return nil
	}
	if s.Want < s.Least {
		return to(s.Least, 0)
	}
	if s.Want > s.Most {
		return to(s.Most, 0)
	}
	d := a.demand()
	if d > s.Want {
		return to(d, 0)
	}
	if d == s.Want {
		if s.Cool != 0 {
			return to(s.Want, 0)
		}
		return nil
	}
	if s.Cool == impl.StewCool {
		return to(s.Want-1, 0)
	}
	return to(s.Want, s.Cool+1)
}

func (a stewAsking) sweeps() *impl.StewAct {
	if !a.service.Gone {
		return nil
	}
	if len(a.live) > 0 {
		return a.ends(a.live)
	}
	if slices.ContainsFunc(a.view.Copies, func(c impl.StewCopy) bool { return c.Service == a.service.Name }) {
		return nil
	}
	return &impl.StewAct{Drop: true}
}

// stewKinder makes a book one in which there is more to ask for: fewer copies are Ending, and some services have just as many as they may.
func (d *dice) stewKinder(b *impl.StewBook) {
	for i := range b.Copies {
		b.Copies[i].Ending = b.Copies[i].Ending && d.roll(3) == 0
	}
	for i := range b.Services {
		s := &b.Services[i]
		live := len((stewReading{*b, impl.StewAct{Service: s.Name}}).live(0))
		if d.roll(2) == 0 {
			s.Want = min(10, max(0, live-s.Over+d.roll(3)-1))
		}
		if d.roll(2) > 0 {
			continue
		}
		// One image for all: else the drainer waits nearly always.
		for j := range b.Copies {
			if b.Copies[j].Service == s.Name {
				b.Copies[j].Image = s.Image
			}
		}
	}
}

// stewAsked counts what was asked for by made-up views, by steward and by what it is.
type stewAsked struct {
	creates, ends, scales, drops, none [7]int
	tooMuch, spoilt                    int
}

func (n *stewAsked) add(kind int, acts []impl.StewAct) {
	if len(acts) == 0 {
		n.none[kind]++
	}
	for _, a := range acts {
		switch {
		case a.Create > 0:
			n.creates[kind]++
		case len(a.Ends) > 0:
			n.ends[kind]++
		case a.Scale:
			n.scales[kind]++
		case a.Drop:
			n.drops[kind]++
		}
	}
}

// Promise 15, and what is asked for by a second reading.
func TestStewAskMadeUp(t *testing.T) {
	t.Parallel()
	d := dice(111)
	var n stewAsked
	for i := range 12000 {
		b := d.stewBook()
		if d.roll(2) == 0 {
			d.stewKinder(&b)
		}
		if d.roll(12) == 0 {
			d.stewAtEnds(&b)
		}
		if d.roll(8) == 0 {
			d.stewSpoil(&b)
		}
		if !stewIsValid(b) {
			n.spoilt++
		}
		for kind := 0; kind <= 7; kind++ {
			got, want := impl.StewAsk(kind, b), stewAskedBy(kind, b)
			if !same(got, want) {
				t.Fatalf("view %d: %d asks for %+v, not for %+v: %+v", i, kind, got, want, b)
			}
			if kind >= 1 && kind <= 6 {
				n.add(kind, got)
			}
			n.tooMuch += stewAllAreDone(t, b, got)
		}
	}
	for kind := 1; kind <= 6; kind++ {
		if n.none[kind] < 500 {
			t.Errorf("%d asked for nothing in %d views alone", kind, n.none[kind])
		}
	}
	for what, many := range map[string]int{
		"created by the counter": n.creates[1], "ended by the counter": n.ends[1],
		"created by the waver": n.creates[2], "ended by the waver": n.ends[2],
		"ended by the mender": n.ends[3], "scaled": n.scales[4],
		"ended by the sweeper": n.ends[5], "dropped": n.drops[5],
		"created by the drainer": n.creates[6], "ended by the drainer": n.ends[6],
		"too much": n.tooMuch, "not valid": n.spoilt,
	} {
		if many < 200 {
			t.Errorf("%s: %d times alone", what, many)
		}
	}
}

// stewAllAreDone says that each act of a steward is done in its view, but for code 7, and so they are one behind the other; how many had that code is told.
func stewAllAreDone(t *testing.T, view impl.StewBook, acts []impl.StewAct) int {
	t.Helper()
	tooMuch := 0
	next := view
	for _, a := range acts {
		_, code := impl.StewApply(view, a)
		if (code == 7) != (stewReading{view, a}).tooMuch() || code != 7 && code != 0 {
			t.Fatalf("code %d of %+v: %+v", code, a, view)
		}
		if code == 7 {
			tooMuch++
		}
		var behind int
		next, behind = impl.StewApply(next, a)
		if behind != 0 && behind != 7 {
			t.Fatalf("code %d of %+v behind others: %+v", behind, a, view)
		}
	}
	return tooMuch
}

// Each service that follows its load, by small numbers.
func TestStewScalerAll(t *testing.T) {
	t.Parallel()
	asked := 0
	for _, per := range []int{1, 2, 3, 1000000} {
		for load := range 9 {
			for most := range 5 {
				for least := range most + 1 {
					for want := range 7 {
						for cool := range impl.StewCool + 1 {
							b := stewFollows(per, load, least, most, want, cool)
							got, want := impl.StewAsk(impl.StewScaler, b), stewAskedBy(impl.StewScaler, b)
							if !same(got, want) {
								t.Fatalf("%+v, not %+v: %+v", got, want, b.Services[0])
							}
							stewAllAreDone(t, b, got)
							asked += len(got)
						}
					}
				}
			}
		}
	}
	if asked < 5000 {
		t.Errorf("%d were scaled alone", asked)
	}
}
