package tests

import (
	"math"
	"slices"
	"strconv"
	"testing"

	"loop.example/wharfdesk/impl"
)

// hallNextBy is the document's sentence on what is to be done next.
func hallNextBy(h house, b twoBooks, number int) (entry, bool) {
	if !hallIsOk(h, b) {
		return entry{}, false
	}
	for steward := 1; steward <= 6; steward++ {
		if list := hallActsBy(h, b, steward); len(list) > 0 {
			return list[0], true
		}
	}
	law := hallLawOf(h.Teams)
	e := hallAtSea(number, stewTickOf())
	if len(markedOf(law, b.Gate)) > 0 || len(goingOf(law, b.Gate)) > 0 {
		e = entry{Kind: 6, Number: number}
	} else if stewDoneBy(b.Stew) {
		return entry{}, false
	}
	if hallFormAsRead(e) == "" {
		return entry{}, false
	}
	return e, true
}

// checkNext says what is to be done next, by its form; with none, nothing is.
func checkNext(t *testing.T, what string, h house, b twoBooks, number int, form string) {
	t.Helper()
	h, b = spread(h), spread(b)
	houseWas, booksWere := whole(h), whole(b)
	got, ok := impl.HallNext(h, b, number)
	if impl.HallForm(got) != form || ok != (form != "") || !ok && !same(got, entry{}) {
		t.Errorf("%s: %+v, %v, not %q", what, got, ok, form)
	}
	if byReading, read := hallNextBy(h, b, number); !same(got, byReading) || read != ok {
		t.Errorf("%s is read as %+v, %v", what, byReading, read)
	}
	if !same(whole(h), houseWas) || !same(whole(b), booksWere) {
		t.Errorf("%s: an argument is changed", what)
	}
	again, _ := impl.HallNext(h, b, number)
	newMemory(t, what, got, h, b, again)
}

// hallCalmBooks are ok in hallHouse, and nothing is to be done in them: services s1 to s6, two copies of each, of which s4 follows its load.
func hallCalmBooks() twoBooks {
	b := impl.HallFirst(hallHouse())
	b.Gate.Now, b.Stew.Now = 20, 30
	b.Stew.Berths = []impl.StewBerth{{Name: "b1"}, {Name: "b2", Drain: true}}
	for i := 1; i <= 6; i++ {
		name := "s" + strconv.Itoa(i)
		values, s := "5,2,1,1,,", impl.StewService{Name: name, Version: 10 + i, Image: 5, Want: 2, Down: 1, Over: 1, Next: 9}
		if i == 4 {
			values, s.Per, s.Most, s.Load = "5,3,1,1,10,", 10, 3, 20
		}
		b.Gate.Objects = append(b.Gate.Objects, hallObject(name, "dev", i+3, values, "fleet"))
		b.Stew.Services = append(b.Stew.Services, s)
		for number := 1; number <= 2; number++ {
			b.Stew.Copies = append(b.Stew.Copies, impl.StewCopy{Service: name, Number: number, Version: 20 + number, Image: 5, State: impl.StewReady, Berth: "b1"})
		}
	}
	return b
}

// hallCopyOf turns the copy of a service that has this Number.
func hallCopyOf(service string, number int, turn func(c *impl.StewCopy)) booksTurn {
	return ofStew(func(s *impl.StewBook) {
		for i := range s.Copies {
			if s.Copies[i].Service == service && s.Copies[i].Number == number {
				turn(&s.Copies[i])
			}
		}
	})
}

// hallTask is something in the calm books that a steward has to do, and the form of what it asks for then.
type hallTask struct {
	turn booksTurn
	form string
}

// hallTasks are of each steward, by its number, one with the service that has the same number.
func hallTasks() [7]hallTask {
	gone := func(b *twoBooks) {
		b.Gate.Objects[4].Ending, b.Stew.Services[4].Gone = true, true
	}
	missing := ofStew(func(s *impl.StewBook) { s.Copies = slices.Delete(s.Copies, 1, 2) })
	return [7]hallTask{
		impl.StewCounter: {missing, "act 30 s1 11 1 * * *"},
		impl.StewWaver:   {hallCopyOf("s2", 1, func(c *impl.StewCopy) { c.Image = 4 }), "act 30 s2 12 1 * * *"},
		impl.StewMender:  {hallCopyOf("s3", 2, func(c *impl.StewCopy) { c.State = impl.StewFailed }), "act 30 s3 13 0 * 2:22 *"},
		impl.StewScaler:  {ofService(3, func(s *impl.StewService) { s.Load = 25 }), "act 30 s4 14 0 3:0 * *"},
		impl.StewSweeper: {gone, "act 30 s5 15 0 * 1:21,2:22 *"},
		impl.StewDrainer: {hallCopyOf("s6", 1, func(c *impl.StewCopy) { c.Berth = "b2" }), "act 30 s6 16 1 * * *"},
	}
}

func hallCalmTurned(turns ...booksTurn) twoBooks {
	b := spread(hallCalmBooks())
	for _, turn := range turns {
		turn(&b)
	}
	return b
}

// hallPut puts an object that is Ending, and no service, into the calm books.
func hallPut(place int, name string, holds ...string) booksTurn {
	return ofGate(func(g *impl.GateBook) {
		o := hallObject(name, "ops", 3, "1,1,0,1,,", holds...)
		o.Ending = true
		g.Objects = slices.Insert(slices.Clone(g.Objects), place, o)
	})
}

// Ways in which something is left to sweep, or not, behind what the stewards asked for.
func hallSweepable() map[string][]booksTurn {
	owned := ofObject(0, func(o *impl.GateObject) { o.Values[5] = "z-own" })
	marked := []booksTurn{owned, hallPut(6, "z-own", "audit")}
	going := []booksTurn{hallPut(6, "z-bin")}
	return map[string][]booksTurn{
		"nothing to sweep":         nil,
		"one that is kept":         {hallPut(6, "z-old", "audit")},
		"one is marked":            marked,
		"one goes":                 going,
		"one is marked, one goes":  {owned, hallPut(6, "z-own", "audit"), hallPut(6, "z-bin")},
		"one that owns is to stay": {owned, hallPut(6, "z-own")},
	}
}

func TestHallNext(t *testing.T) {
	t.Parallel()
	h := hallHouse()
	starts := hallCopyOf("s1", 1, func(c *impl.StewCopy) { c.State = impl.StewStarting })
	for mask := range 1 << 6 {
		var acts []booksTurn
		first := ""
		for steward := 6; steward >= 1; steward-- {
			if mask>>(steward-1)&1 == 1 {
				task := hallTasks()[steward]
				acts, first = append(acts, task.turn), task.form
			}
		}
		for what, sweeps := range hallSweepable() {
			for _, way := range []struct {
				turns []booksTurn
				done  bool
			}{{nil, true}, {[]booksTurn{starts}, false}} {
				b := hallCalmTurned(slices.Concat(acts, way.turns)...)
				for _, turn := range sweeps {
					turn(&b)
				}
				for _, number := range []int{1, 7, 1000000, -1, 0, 1000001} {
					form := first
					if first == "" && number >= 1 && number <= 1000000 {
						switch {
						case sweeps != nil && what != "one that is kept":
							form = "sweep " + strconv.Itoa(number)
						case !way.done:
							form = "sea " + strconv.Itoa(number) + " tick"
						}
					}
					checkNext(t, what, h, b, number, form)
				}
			}
		}
	}
}

// The first act of several that a steward asks for.
func TestHallNextFirst(t *testing.T) {
	h := hallHouse()
	checkNext(t, "books", h, hallBooks(), 7, "act 30 log 24 1 * * *")
	noCopies := ofStew(func(s *impl.StewBook) { s.Copies = nil })
	checkNext(t, "several", h, hallTurned(noCopies), 7, "act 30 api 21 3 * * *")
	checkNext(t, "no books", house{}, twoBooks{}, 7, "")
	checkNext(t, "the first books", h, impl.HallFirst(h), 7, "")
	checkNext(t, "nothing but a berth", h, impl.HallState(h, texts{"sea 1 raise b1"}), 7, "")
	checkNext(t, "an act that is too long", h, hallLongSwept(), 7, hallEndsForm("act 30 cron 22 0 * ", hallEndsFrom(1, 29)))
}

// hallLongSwept are calm but for cron, which has more copies than one act can end.
func hallLongSwept() twoBooks {
	only := func(b *twoBooks) {
		b.Gate.Objects = b.Gate.Objects[hallCron : hallCron+1]
		b.Gate.Ledgers, b.Gate.Purses = nil, nil
		b.Stew.Services, b.Stew.Copies = b.Stew.Services[hallCronService:hallCronService+1], nil
	}
	waits := func(_ int, c *impl.StewCopy) { c.State, c.Berth = impl.StewWaiting, "" }
	return hallTurned(only, hasCopies(0, 60, 1, waits))
}

func hallEndsFrom(first, last int) texts {
	var list texts
	for number := first; number <= last; number++ {
		list = append(list, strconv.Itoa(number)+":1")
	}
	return list
}

// What is left is a tick, as long as the stewards' book is not done.
func TestHallNextTicks(t *testing.T) {
	h := hallHouse()
	undone := map[string]booksTurn{
		"one starts": hallCopyOf("s3", 1, func(c *impl.StewCopy) { c.State = impl.StewStarting }),
		"one waits":  hallCopyOf("s3", 1, func(c *impl.StewCopy) { c.State, c.Berth = impl.StewWaiting, "" }),
		"one is over": ofStew(func(s *impl.StewBook) {
			s.Copies = append(s.Copies, impl.StewCopy{Service: "s6", Number: 3, Version: 1, Image: 5, State: impl.StewReady, Ending: true, Berth: "b1"})
		}),
		"one waits, and there is no berth for it": func(b *twoBooks) {
			b.Stew.Berths[0].Drain = true
			b.Stew.Copies = b.Stew.Copies[:0]
			for i, s := range b.Stew.Services {
				b.Stew.Services[i].Next = 3
				for number := range 2 {
					b.Stew.Copies = append(b.Stew.Copies, impl.StewCopy{Service: s.Name, Number: number + 1, Version: 1, Image: 5, State: impl.StewWaiting})
				}
			}
		},
		"all are Ending": func(b *twoBooks) {
			for i := range b.Stew.Services {
				b.Stew.Services[i].Gone, b.Gate.Objects[i].Ending = true, true
			}
			for i := range b.Stew.Copies {
				b.Stew.Copies[i].Ending = true
			}
		},
	}
	for what, turn := range undone {
		b := hallCalmTurned(turn)
		for number, form := range map[int]string{1: "sea 1 tick", 500000: "sea 500000 tick", 1000000: "sea 1000000 tick", 0: "", -1: "", 1000001: "", math.MinInt: "", math.MaxInt: ""} {
			checkNext(t, what, h, b, number, form)
		}
	}
	for _, number := range []int{1, 1000000, 0, -1, 1000001, math.MinInt, math.MaxInt} {
		checkNext(t, "all is done", h, hallCalmBooks(), number, "")
		checkNext(t, "all is done, at both ends", h, hallCalmTurned(gateAt(1000000), stewAt(1000000)), number, "")
	}
}

func TestHallNextNotOk(t *testing.T) {
	for _, number := range []int{0, 1, 7} {
		for what, b := range map[string]twoBooks{
			"Gate is not ok":    hallTurned(gateAt(1)),
			"Stew is not valid": hallTurned(stewAt(1)),
			"they are not tied": hallTurned(ofService(hallWebService, isGone)),
		} {
			checkNext(t, what, hallHouse(), b, number, "")
		}
		for what, h := range hallBadHouses() {
			checkNext(t, what, h, hallBooks(), number, "")
			checkNext(t, what, h, twoBooks{}, number, "")
		}
		checkNext(t, "another house", house{}, hallBooks(), number, "")
	}
}

// isDoneNext is promise 43 of books that are ok, where something is told: its code, which is 0 but at an end.
func isDoneNext(t *testing.T, h house, b twoBooks, number int) impl.GateSaid {
	t.Helper()
	e, ok := impl.HallNext(h, b, number)
	if !ok {
		t.Fatalf("nothing is told of %+v", b)
	}
	next, said := impl.HallDo(h, b, e)
	if same(next, b) != (said.Code != 0) {
		t.Fatalf("%+v: %+v became %+v by %+v", said, b, next, e)
	}
	return said
}

// Promise 43, at every end that there is.
func TestHallNextAtEnds(t *testing.T) {
	h := hallHouse()
	last, never := stewAt(1000000), gateAt(1000000)
	for steward := 1; steward <= 6; steward++ {
		task := hallTasks()[steward].turn
		for what, c := range map[string]struct {
			b    twoBooks
			said impl.GateSaid
		}{
			"no end":              {hallCalmTurned(task), impl.GateSaid{Version: 31}},
			"the last change":     {hallCalmTurned(task, stewAt(999999)), impl.GateSaid{Version: 1000000}},
			"no change left":      {hallCalmTurned(task, last), refused(14, 7)},
			"no versions left":    {hallCalmTurned(task, never), impl.GateSaid{Version: 31}},
			"nothing left at all": {hallCalmTurned(task, never, last), refused(14, 7)},
		} {
			if said := isDoneNext(t, h, c.b, 7); said != c.said {
				t.Errorf("%d, %s: %+v, not %+v", steward, what, said, c.said)
			}
		}
	}
	missing, noCopies := hallTasks()[impl.StewCounter].turn, func(b *twoBooks) {
		hallTasks()[impl.StewSweeper].turn(b)
		b.Stew.Copies = slices.DeleteFunc(b.Stew.Copies, func(c impl.StewCopy) bool { return c.Service == "s5" })
	}
	for _, c := range []struct {
		what  string
		turns []booksTurn
		said  impl.GateSaid
	}{
		{"Next at its end", []booksTurn{missing, ofService(0, func(s *impl.StewService) { s.Next = 1000000 })}, refused(14, 7)},
		{"Next just ahead of it", []booksTurn{missing, ofService(0, func(s *impl.StewService) { s.Next = 999999 })}, impl.GateSaid{Version: 31}},
		{"as many copies as may be", []booksTurn{missing, ofStew(func(s *impl.StewBook) { stewCrowded(s, 200) })}, refused(14, 7)},
		{"as many copies as may be but one", []booksTurn{missing, ofStew(func(s *impl.StewBook) { stewCrowded(s, 199) })}, impl.GateSaid{Version: 31}},
		{"a drop", []booksTurn{noCopies}, impl.GateSaid{Version: 31}},
		{"a drop with the last version", []booksTurn{noCopies, gateAt(999999)}, impl.GateSaid{Version: 31}},
		{"a drop with no versions left", []booksTurn{noCopies, never}, refused(11, 0)},
		{"a drop with nothing left at all", []booksTurn{noCopies, never, last}, refused(14, 7)},
		{"a mark with no versions left", append(hallSweepable()["one is marked"], never), refused(3, 0)},
		{"a mark with no change left", append(hallSweepable()["one is marked"], last), refused(14, 7)},
		{"a mark with nothing left at all", append(hallSweepable()["one is marked"], never, last), refused(3, 0)},
		{"a mark with the last of both", append(hallSweepable()["one is marked"], gateAt(999999), stewAt(999999)), impl.GateSaid{}},
		{"one that goes needs nothing", append(hallSweepable()["one goes"], never, last), impl.GateSaid{}},
		{"a tick", []booksTurn{hallCopyOf("s3", 1, func(c *impl.StewCopy) { c.State = impl.StewStarting })}, impl.GateSaid{Version: 31}},
		{"a tick with no change left", []booksTurn{hallCopyOf("s3", 1, func(c *impl.StewCopy) { c.State = impl.StewStarting }), last}, refused(14, 7)},
		{"a tick with no versions left", []booksTurn{hallCopyOf("s3", 1, func(c *impl.StewCopy) { c.State = impl.StewStarting }), never}, impl.GateSaid{Version: 31}},
	} {
		if said := isDoneNext(t, h, hallCalmTurned(c.turns...), 7); said != c.said {
			t.Errorf("%s: %+v, not %+v", c.what, said, c.said)
		}
	}
}
