package tests

import (
	"math"
	"slices"
	"testing"

	"loop.example/wharfdesk/impl"
)

// stewCalmFleet is done: api follows its load, none is wanted of idle, web is plain; b2 is to be drained, and nothing stands there.
func stewCalmFleet() impl.StewBook {
	ready := func(service string, number, version, image int, berth string) impl.StewCopy {
		return impl.StewCopy{Service: service, Number: number, Version: version, Image: image, State: impl.StewReady, Berth: berth}
	}
	return impl.StewBook{
		Now: 40,
		Services: []impl.StewService{
			{Name: "api", Version: 31, Image: 7, Want: 2, Down: 1, Next: 4, Per: 50, Least: 1, Most: 4, Load: 90},
			{Name: "idle", Version: 40, Image: 3, Want: 0, Down: 2, Over: 2, Next: 1},
			{Name: "web", Version: 9, Image: 2, Want: 3, Down: 1, Over: 1, Next: 20},
		},
		Copies: []impl.StewCopy{
			ready("api", 1, 20, 7, "b1"), ready("api", 3, 21, 7, "b3"),
			ready("web", 2, 1, 2, "b1"), ready("web", 9, 30, 2, "b3"), ready("web", 10, 30, 2, "b3"),
		},
		Berths: []impl.StewBerth{{Name: "b1"}, {Name: "b2", Drain: true}, {Name: "b3"}},
	}
}

// Places of services in stewCalmFleet.
const (
	stewCalmApi = iota
	stewCalmIdle
	stewCalmWeb
)

// stewEnded is one more copy of web, which is Ending.
func stewEnded(number, image, state int, berth string) stewTurn {
	return func(b *impl.StewBook) {
		b.Copies = append(b.Copies, impl.StewCopy{Service: "web", Number: number, Version: 5, Image: image, State: state, Ending: true, Berth: berth})
	}
}

// stewRanksAs says what StewRank tells, that the book stays as it is, that the answer is memory of its own, and, of promise 18, whether it is done.
func stewRanksAs(t *testing.T, what string, b impl.StewBook, done bool, ranks ...int) {
	t.Helper()
	b = spread(b)
	before := whole(b)
	got := impl.StewRank(b)
	if !slices.Equal(got, ranks) {
		t.Errorf("%s: %v, not %v", what, got, ranks)
	}
	if isDone := impl.StewDone(b); isDone != done {
		t.Errorf("%s: done: %v", what, isDone)
	}
	if !same(whole(b), before) {
		t.Errorf("%s: the book was changed", what)
	}
	newMemory(t, what, got, b)
	clear(got[:cap(got)])
	got[0] = 77
	if again := impl.StewRank(b); !slices.Equal(again, ranks) {
		t.Errorf("%s: %v, once the first answer was written over", what, again)
	}
	if done {
		stewStaysDone(t, what, b)
	}
}

// stewStaysDone is promise 19.
func stewStaysDone(t *testing.T, what string, b impl.StewBook) {
	t.Helper()
	for kind := impl.StewCounter; kind <= impl.StewDrainer; kind++ {
		if acts := impl.StewAsk(kind, b); len(acts) > 0 {
			t.Errorf("%s: %d asks for %+v", what, kind, acts)
		}
	}
	next, code := impl.StewSea(b, stewTickOf())
	if b.Now == 1000000 {
		if code != 7 || !same(next, b) {
			t.Errorf("%s: %d and %+v behind the last tick", what, code, next)
		}
		return
	}
	next.Now--
	if code != 0 || !same(next, b) {
		t.Errorf("%s: %d and %+v behind a tick", what, code, next)
	}
}

type stewRankCase struct {
	what  string
	done  bool
	ranks []int
	turn  stewTurn
}

// stewCheckRanks looks at the calm fleet, turned.
func stewCheckRanks(t *testing.T, cases []stewRankCase) {
	t.Helper()
	for _, c := range cases {
		b := stewCalmFleet()
		c.turn(&b)
		if !impl.StewValid(b) {
			t.Errorf("%s: the book is not valid", c.what)
		}
		stewRanksAs(t, c.what, b, c.done, c.ranks...)
	}
}

func TestStewDone(t *testing.T) {
	none := []int{0, 0, 0, 0, 0}
	api := func(change func(*impl.StewService)) stewTurn { return stewOfService(stewCalmApi, change) }
	stewCheckRanks(t, []stewRankCase{
		{"the calm fleet", true, none, func(*impl.StewBook) {}},
		{"at the last Now", true, none, func(b *impl.StewBook) { b.Now = 1000000 }},
		{"nothing", true, none, func(b *impl.StewBook) { *b = impl.StewBook{} }},
		{"empty lists", true, none, func(b *impl.StewBook) {
			*b = impl.StewBook{Services: []impl.StewService{}, Copies: []impl.StewCopy{}, Berths: []impl.StewBerth{}}
		}},
		{"berths alone", true, none, func(b *impl.StewBook) { b.Services, b.Copies = nil, nil }},
		{"no berths, none wanted", true, none, func(b *impl.StewBook) { b.Services, b.Copies, b.Berths = b.Services[1:2], nil, nil }},
		{"without a berth that is to be drained", true, none, func(b *impl.StewBook) { b.Berths = []impl.StewBerth{{Name: "b1"}, {Name: "b3"}} }},
		{"all on one berth", true, none, func(b *impl.StewBook) {
			for i := range b.Copies {
				b.Copies[i].Berth = "b1"
			}
		}},
		{"as many as may be wanted", true, none, func(b *impl.StewBook) { *b = stewHas(10, 0, 1, stewSomeOf(10, stewGood())...) }},
		{"a load at the edge", true, none, api(func(s *impl.StewService) { s.Load = 100 })},
		{"a load at the other edge", true, none, api(func(s *impl.StewService) { s.Load = 51 })},
		{"less load than the Least bears", true, none, api(func(s *impl.StewService) { s.Load, s.Least = 0, 2 })},
		{"more load than the Most bears", true, none, api(func(s *impl.StewService) { s.Load, s.Most = 1000000, 2 })},
		{"no load to follow", true, none, api(func(s *impl.StewService) { s.Per, s.Least, s.Most, s.Load = 0, 0, 0, 0 })},
		{"a load of 0, none wanted", true, none, stewOfService(stewCalmIdle, func(s *impl.StewService) { s.Per, s.Most = 1, 5 })},

		{"a load that asks for more by one", false, none, api(func(s *impl.StewService) { s.Load = 101 })},
		{"a load that asks for less by one", false, none, api(func(s *impl.StewService) { s.Load = 50 })},
		{"a Least above Want", false, none, api(func(s *impl.StewService) { s.Least = 3 })},
		{"a Most below Want", false, none, api(func(s *impl.StewService) { s.Most = 1 })},
		{"a Most of 0", false, none, api(func(s *impl.StewService) { s.Least, s.Most, s.Load = 0, 0, 1000000 })},
		{"a load where none is wanted", false, none, stewOfService(stewCalmIdle, func(s *impl.StewService) { s.Per, s.Most, s.Load = 1000000, 5, 1 })},
		{"a Cool of 1", false, none, api(func(s *impl.StewService) { s.Cool = 1 })},
		{"a Cool of 3", false, none, api(func(s *impl.StewService) { s.Cool = 3 })},
		{"a Cool of 1, none wanted", false, none, stewOfService(stewCalmIdle, func(s *impl.StewService) { s.Per, s.Cool = 1, 1 })},
	})
}

// Each of the numbers by itself: with any of them above 0 a book is not done.
func TestStewRankOne(t *testing.T) {
	copyAt := stewOfCopy
	stewCheckRanks(t, []stewRankCase{
		{"one Gone, without copies", false, []int{1, 0, 0, 0, 0}, stewOfService(stewCalmIdle, func(s *impl.StewService) { s.Gone = true })},
		{"one Gone, without copies, some wanted", false, []int{1, 0, 0, 0, 0}, stewOfService(stewCalmIdle, func(s *impl.StewService) { s.Gone, s.Want = true, 10 })},
		{"all Gone, without copies", false, []int{3, 0, 0, 0, 0}, func(b *impl.StewBook) {
			b.Copies = nil
			for i := range b.Services {
				b.Services[i].Gone = true
			}
		}},

		{"one Ending", false, []int{0, 1, 0, 0, 0}, stewEnded(11, 2, impl.StewReady, "b1")},
		{"one Ending, old", false, []int{0, 1, 0, 0, 0}, stewEnded(11, 1, impl.StewReady, "b1")},
		{"one Ending, on a berth that is to be drained", false, []int{0, 1, 0, 0, 0}, stewEnded(11, 2, impl.StewReady, "b2")},
		{"one Ending, waiting", false, []int{0, 1, 0, 0, 0}, stewEnded(11, 2, impl.StewWaiting, "")},
		{"one Ending, starting", false, []int{0, 1, 0, 0, 0}, stewEnded(11, 2, impl.StewStarting, "b2")},
		{"one Ending, failed", false, []int{0, 1, 0, 0, 0}, stewEnded(11, 1, impl.StewFailed, "b2")},
		{"two Ending", false, []int{0, 2, 0, 0, 0}, func(b *impl.StewBook) { stewEnded(11, 2, 3, "b1")(b); stewEnded(12, 2, 1, "")(b) }},

		{"one too few", false, []int{0, 0, 1, 0, 0}, stewOfService(stewCalmWeb, func(s *impl.StewService) { s.Want++ })},
		{"one too many", false, []int{0, 0, 1, 0, 0}, stewOfService(stewCalmWeb, func(s *impl.StewService) { s.Want-- })},
		{"seven too few", false, []int{0, 0, 7, 0, 0}, stewOfService(stewCalmWeb, func(s *impl.StewService) { s.Want = 10 })},
		{"three too many", false, []int{0, 0, 3, 0, 0}, stewOfService(stewCalmWeb, func(s *impl.StewService) { s.Want = 0 })},
		{"none there, ten wanted", false, []int{0, 0, 10, 0, 0}, stewOfService(stewCalmIdle, func(s *impl.StewService) { s.Want = 10 })},
		{"one too many, which Over allows", false, []int{0, 0, 1, 0, 0}, stewOfService(stewCalmWeb, func(s *impl.StewService) { s.Want, s.Over = 2, 10 })},
		{"one too few, which Down allows", false, []int{0, 0, 1, 0, 0}, stewOfService(stewCalmWeb, func(s *impl.StewService) { s.Want, s.Down = 4, 10 })},
		{"one too few of one and one too many of another", false, []int{0, 0, 2, 0, 0}, func(b *impl.StewBook) { b.Services[stewCalmIdle].Want, b.Services[stewCalmWeb].Want = 1, 2 }},
		{"too few of all", false, []int{0, 0, 13, 0, 0}, func(b *impl.StewBook) {
			b.Services[stewCalmApi].Want, b.Services[stewCalmIdle].Want, b.Services[stewCalmWeb].Want = 4, 4, 10
		}},

		{"one old", false, []int{0, 0, 0, 1, 0}, copyAt(2, func(c *impl.StewCopy) { c.Image = 1 })},
		{"one of a higher image", false, []int{0, 0, 0, 1, 0}, copyAt(2, func(c *impl.StewCopy) { c.Image = 3 })},
		{"one of another service's image", false, []int{0, 0, 0, 1, 0}, copyAt(2, func(c *impl.StewCopy) { c.Image = 7 })},
		{"all old of one", false, []int{0, 0, 0, 3, 0}, stewOfService(stewCalmWeb, func(s *impl.StewService) { s.Image = 9 })},
		{"one on a berth that is to be drained", false, []int{0, 0, 0, 1, 0}, copyAt(2, func(c *impl.StewCopy) { c.Berth = "b2" })},
		{"a berth that is to be drained from now on", false, []int{0, 0, 0, 3, 0}, func(b *impl.StewBook) { b.Berths[2].Drain = true }},
		{"all berths to be drained", false, []int{0, 0, 0, 5, 0}, func(b *impl.StewBook) { b.Berths[0].Drain, b.Berths[2].Drain = true, true }},
		{"one old and on a berth that is to be drained", false, []int{0, 0, 0, 1, 0}, copyAt(2, func(c *impl.StewCopy) { c.Image, c.Berth = 1, "b2" })},
		{"one old, another on a berth that is to be drained", false, []int{0, 0, 0, 2, 0}, func(b *impl.StewBook) { b.Copies[0].Image, b.Copies[4].Berth = 1, "b2" }},

		{"one that waits", false, []int{0, 0, 0, 0, 1}, copyAt(2, func(c *impl.StewCopy) { c.State, c.Berth = impl.StewWaiting, "" })},
		{"one that starts", false, []int{0, 0, 0, 0, 1}, copyAt(2, func(c *impl.StewCopy) { c.State = impl.StewStarting })},
		{"one that failed", false, []int{0, 0, 0, 0, 1}, copyAt(2, func(c *impl.StewCopy) { c.State = impl.StewFailed })},
		{"the last that starts", false, []int{0, 0, 0, 0, 1}, copyAt(4, func(c *impl.StewCopy) { c.State = impl.StewStarting })},
		{"three of two services", false, []int{0, 0, 0, 0, 3}, func(b *impl.StewBook) {
			b.Copies[0].State, b.Copies[1].State, b.Copies[3].State = impl.StewStarting, impl.StewFailed, impl.StewFailed
		}},
	})
}

func TestStewRankSeveral(t *testing.T) {
	stewCheckRanks(t, []stewRankCase{
		{"old, to be drained and not ready", false, []int{0, 0, 0, 1, 1}, stewOfCopy(2, func(c *impl.StewCopy) { c.Image, c.Berth, c.State = 1, "b2", impl.StewStarting })},
		{"old and waiting", false, []int{0, 0, 0, 1, 1}, stewOfCopy(2, func(c *impl.StewCopy) { c.Image, c.Berth, c.State = 1, "", impl.StewWaiting })},
		{"one of those that are wanted is Ending", false, []int{0, 1, 1, 0, 0}, stewOfCopy(2, func(c *impl.StewCopy) { c.Ending = true })},
		{"one of those that are wanted is Ending and failed", false, []int{0, 1, 1, 0, 0}, stewOfCopy(2, func(c *impl.StewCopy) { c.Ending, c.State, c.Image, c.Berth = true, 4, 1, "b2" })},

		{"one Gone, with copies", false, []int{1, 3, 0, 0, 0}, stewOfService(stewCalmWeb, func(s *impl.StewService) { s.Gone = true })},
		{"one Gone, with too many copies", false, []int{1, 3, 0, 0, 0}, stewOfService(stewCalmWeb, func(s *impl.StewService) { s.Gone, s.Want = true, 0 })},
		{"one Gone, with too few copies", false, []int{1, 3, 0, 0, 0}, stewOfService(stewCalmWeb, func(s *impl.StewService) { s.Gone, s.Want = true, 10 })},
		{"one Gone, its copies Ending", false, []int{1, 3, 0, 0, 0}, func(b *impl.StewBook) {
			b.Services[stewCalmWeb].Gone = true
			b.Copies[2].Ending, b.Copies[3].Ending, b.Copies[4].Ending = true, true, true
		}},
		{"one Gone, a copy Ending, and one Ending of another", false, []int{1, 4, 1, 0, 0}, func(b *impl.StewBook) {
			b.Services[stewCalmWeb].Gone, b.Copies[2].Ending, b.Copies[0].Ending = true, true, true
		}},
		// The document leaves those that are Gone out of the third number alone.
		{"one Gone, with an old copy", false, []int{1, 3, 0, 1, 0}, func(b *impl.StewBook) { b.Services[stewCalmWeb].Gone, b.Copies[2].Image = true, 1 }},
		{"one Gone, with a copy that is to leave", false, []int{1, 3, 0, 1, 0}, func(b *impl.StewBook) { b.Services[stewCalmWeb].Gone, b.Copies[2].Berth = true, "b2" }},
		{"one Gone, with a copy that failed", false, []int{1, 3, 0, 0, 1}, func(b *impl.StewBook) { b.Services[stewCalmWeb].Gone, b.Copies[2].State = true, impl.StewFailed }},
		{"one Gone, with a copy that failed, Ending", false, []int{1, 3, 0, 0, 0}, func(b *impl.StewBook) {
			b.Services[stewCalmWeb].Gone, b.Copies[2].State, b.Copies[2].Ending, b.Copies[2].Image = true, impl.StewFailed, true, 1
		}},

		{"a service that follows its load, of which all else is so", false, []int{0, 0, 1, 0, 0}, stewOfService(stewCalmApi, func(s *impl.StewService) { s.Want, s.Load = 3, 150 })},
	})
	stewRanksAs(t, "the fleet", stewFleet(), false, 1, 2, 0, 2, 3)
	stewRanksAs(t, "the busy fleet", stewBusy(), false, 2, 5, 3, 5, 5)
	stewRanksAs(t, "all that there may be", stewCrowd(8, 200, 6), false, 0, 0, 200, 0, 200)
	crowd := stewCrowd(8, 200, 6)
	for i := range crowd.Services {
		crowd.Services[i].Gone = true
	}
	stewRanksAs(t, "all that there may be, Gone", crowd, false, 8, 200, 0, 0, 200)
}

func TestStewRankNotValid(t *testing.T) {
	for what, turn := range stewSpoilt() {
		for name, b := range map[string]impl.StewBook{"the fleet": stewFleet(), "the busy fleet": stewBusy()} {
			turn(&b)
			if impl.StewValid(b) {
				t.Errorf("%s: valid", what)
			}
			stewRanksAs(t, name+", "+what, b, false, 0, 0, 0, 0, 0)
		}
	}
	// All would be as it is wanted, if it were valid.
	for what, turn := range map[string]stewTurn{
		"Now too high":            func(b *impl.StewBook) { b.Now = 1000001 },
		"Now below 0, of nothing": func(b *impl.StewBook) { *b = impl.StewBook{Now: -1} },
		"Now as far as it goes":   func(b *impl.StewBook) { *b = impl.StewBook{Now: math.MaxInt} },
		"Now below a Version":     func(b *impl.StewBook) { b.Now = 39 },
		"services out of order":   func(b *impl.StewBook) { stewSwap(b.Services, 0, 1) },
		"a service too many":      func(b *impl.StewBook) { *b = stewCrowd(9, 0, 0) },
		"an Image of 0":           func(b *impl.StewBook) { b.Services[stewCalmIdle].Image = 0 },
		"Down and Over 0":         func(b *impl.StewBook) { b.Services[stewCalmWeb].Down, b.Services[stewCalmWeb].Over = 0, 0 },
		"a Version of 0":          func(b *impl.StewBook) { b.Copies[0].Version = 0 },
		"copies out of order":     func(b *impl.StewBook) { stewSwap(b.Copies, 2, 3) },
		"a copy behind Next":      func(b *impl.StewBook) { b.Services[stewCalmWeb].Next = 10 },
		"a copy on no berth":      func(b *impl.StewBook) { b.Copies[0].Berth = "b4" },
		"berths out of order":     func(b *impl.StewBook) { stewSwap(b.Berths, 0, 2) },
		"a berth without a name":  func(b *impl.StewBook) { b.Berths[1].Name = "" },
		"a berth too many":        func(b *impl.StewBook) { *b = stewCrowd(0, 0, 7) },
		"a Per below 0":           func(b *impl.StewBook) { b.Services[stewCalmIdle].Per = -1 },
		"a Load without a Per":    func(b *impl.StewBook) { b.Services[stewCalmIdle].Load = 1 },
		"a Least above the Most":  func(b *impl.StewBook) { b.Services[stewCalmApi].Least, b.Services[stewCalmApi].Most = 3, 2 },
		"a copy of no service":    func(b *impl.StewBook) { b.Services = b.Services[:stewCalmWeb] },
		"a Want that is too high": func(b *impl.StewBook) { *b = stewHas(11, 0, 1, stewSomeOf(11, stewGood())...) },
		"too many copies of none": func(b *impl.StewBook) { *b = stewCrowd(0, 201, 0) },
	} {
		b := stewCalmFleet()
		turn(&b)
		if impl.StewValid(b) {
			t.Errorf("%s: valid", what)
		}
		stewRanksAs(t, what, b, false, 0, 0, 0, 0, 0)
	}
}

// Every Want, Per and Load within a few, as many copies as are wanted: it is done just if these are what the load asks for.
func TestStewDoneLoads(t *testing.T) {
	done := 0
	for want := range 6 {
		for per := 1; per <= 4; per++ {
			for load := range 18 {
				for least := range 4 {
					for most := least; most <= 5; most++ {
						b := stewFollows(per, load, least, most, want, 0)
						b.Copies = stewHas(want, 1, 1, stewSomeOf(want, stewGood())...).Copies
						b.Services[0].Next = 90
						asked := (stewAsking{view: b, service: b.Services[0]}).demand()
						if asked == want {
							done++
						}
						if got := impl.StewDone(b); got != (asked == want) || !impl.StewValid(b) {
							t.Fatalf("%v, %d asked for: %+v", got, asked, b)
						}
						b.Services[0].Cool = 1 + load%3
						if impl.StewDone(b) {
							t.Fatalf("done with a Cool: %+v", b)
						}
					}
				}
			}
		}
	}
	if done < 100 {
		t.Errorf("done %d times alone", done)
	}
}
