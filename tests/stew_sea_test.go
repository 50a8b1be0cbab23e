package tests

import (
	"fmt"
	"math"
	"slices"
	"strings"
	"testing"

	"loop.example/wharfdesk/impl"
)

// stewBefalls lets an event happen, and says that it has this code and leads to this book, that the book stays as it is, and that the answer is memory of its own and valid.
func stewBefalls(t *testing.T, what string, b impl.StewBook, e impl.StewEvent, want impl.StewBook, code int) {
	t.Helper()
	b = spread(b)
	before := whole(b)
	got, gotCode := impl.StewSea(b, e)
	if gotCode != code || !same(got, want) {
		t.Errorf("%s: %d and %+v, not %d and %+v", what, gotCode, got, code, want)
	}
	if !impl.StewValid(got) {
		t.Errorf("%s: the book behind it is not valid", what)
	}
	if !same(whole(b), before) {
		t.Errorf("%s: the book was changed", what)
	}
	newMemory(t, what, got, b)
}

// stewHappens is stewBefalls with code 0: the book behind it is the one ahead, a change later and turned.
func stewHappens(t *testing.T, what string, b impl.StewBook, e impl.StewEvent, turn stewTurn) {
	t.Helper()
	if !impl.StewValid(b) {
		t.Errorf("%s: the book was not valid", what)
	}
	want := spread(b)
	want.Now++
	turn(&want)
	stewBefalls(t, what, b, e, want, 0)
}

// stewRefuses is stewBefalls with another code: the book is as it was, or nothing with 1.
func stewRefuses(t *testing.T, what string, b impl.StewBook, e impl.StewEvent, code int) {
	t.Helper()
	want := b
	if code == 1 {
		want = impl.StewBook{}
	} else if !impl.StewValid(b) {
		t.Errorf("%s: the book was not valid", what)
	}
	stewBefalls(t, what, b, e, want, code)
}

func stewTickOf() impl.StewEvent {
	return impl.StewEvent{Kind: impl.StewTick}
}

func stewWishOf(s impl.StewService) impl.StewEvent {
	return impl.StewEvent{Kind: impl.StewWish, Service: s}
}

func stewFailOf(service string, number int) impl.StewEvent {
	return impl.StewEvent{Kind: impl.StewFails, Name: service, Number: number}
}

func stewSinkOf(berth string) impl.StewEvent {
	return impl.StewEvent{Kind: impl.StewSink, Name: berth}
}

func stewRaiseOf(berth string, drain bool) impl.StewEvent {
	return impl.StewEvent{Kind: impl.StewRaise, Name: berth, Flag: drain}
}

func stewLoadOf(service string, load int) impl.StewEvent {
	return impl.StewEvent{Kind: impl.StewLoad, Name: service, Number: load}
}

// stewPlain is a service that may be wished for under any name.
func stewPlain(name string) impl.StewService {
	return impl.StewService{Name: name, Image: 8, Want: 4, Down: 2, Over: 3}
}

// stewOfEach is an event of each Kind that the fleet lets happen.
func stewOfEach() map[string]impl.StewEvent {
	return map[string]impl.StewEvent{
		"a tick":    stewTickOf(),
		"a wish":    stewWishOf(stewPlain("web")),
		"a failure": stewFailOf("web", 2),
		"a sinking": stewSinkOf("b1"),
		"a raising": stewRaiseOf("b4", true),
		"a load":    stewLoadOf("api", 7),
	}
}

// stewInVain is what the fleet does not let happen, by its code.
func stewInVain() map[int][]impl.StewEvent {
	return map[int][]impl.StewEvent{
		2: {stewWishOf(stewPlain("")), stewRaiseOf("", false), stewLoadOf("api", -1)},
		3: {stewFailOf("web", 3), stewSinkOf("b4"), stewLoadOf("web", 1)},
		4: {{}, {Kind: 7}, {Kind: -1}},
	}
}

func TestStewSeaOfEach(t *testing.T) {
	for what, e := range stewOfEach() {
		got, code := impl.StewSea(stewFleet(), e)
		if code != 0 || got.Now != 41 {
			t.Errorf("%s: %d, and Now %d", what, code, got.Now)
		}
	}
	for code, events := range stewInVain() {
		for _, e := range events {
			stewRefuses(t, fmt.Sprintf("%+v", e), stewFleet(), e, code)
		}
	}
}

func TestStewSeaNotValid(t *testing.T) {
	for spoilt, turn := range stewSpoilt() {
		b := stewTurned(turn)
		if impl.StewValid(b) {
			t.Errorf("%s: valid", spoilt)
		}
		for what, e := range stewOfEach() {
			stewRefuses(t, spoilt+", "+what, b, e, 1)
		}
		for _, events := range stewInVain() {
			for _, e := range events {
				stewRefuses(t, fmt.Sprintf("%s, %+v", spoilt, e), b, e, 1)
			}
		}
		// An event that would mend what is not valid comes too late.
		stewRefuses(t, spoilt+", a wish for web as it was", b, stewWishOf(stewFleet().Services[stewWeb]), 1)
	}
}

func TestStewSeaOtherKinds(t *testing.T) {
	for _, kind := range []int{0, 7, -1, 8, -6, 100, math.MinInt, math.MaxInt} {
		for what, e := range stewOfEach() {
			e.Kind = kind
			what = fmt.Sprintf("Kind %d, else %s", kind, what)
			stewRefuses(t, what, stewFleet(), e, 4)
			stewRefuses(t, what+", at the last Now", stewTurned(func(b *impl.StewBook) { b.Now = 1000000 }), e, 4)
			stewRefuses(t, what+", of nothing", impl.StewBook{}, e, 4)
		}
	}
}

// At the last Now nothing happens, whatever else is wrong with it; one ahead of it all does.
func TestStewSeaLastNow(t *testing.T) {
	last := stewTurned(func(b *impl.StewBook) { b.Now = 1000000 })
	ahead := stewTurned(func(b *impl.StewBook) { b.Now = 999999 })
	for what, e := range stewOfEach() {
		stewRefuses(t, what, last, e, 7)
		want, code := stewSeaBy(ahead, e)
		if code != 0 || want.Now != 1000000 {
			t.Errorf("%s: %d and %+v", what, code, want)
		}
		stewBefalls(t, what+", one ahead", ahead, e, want, 0)
	}
	for code, events := range stewInVain() {
		for _, e := range events {
			what := fmt.Sprintf("%+v", e)
			stewRefuses(t, what+", one ahead", ahead, e, code)
			if code != 4 {
				stewRefuses(t, what, last, e, 7)
			}
		}
	}
	for _, kind := range []int{1, 2, 3, 4, 5, 6} {
		stewRefuses(t, fmt.Sprintf("nothing but Kind %d", kind), impl.StewBook{Now: 1000000}, impl.StewEvent{Kind: kind}, 7)
	}
}

// What an event does not use is not looked at.
func TestStewSeaUnused(t *testing.T) {
	junk := impl.StewService{Name: "\xff", Version: -1, Gone: true, Image: -2, Want: -3, Down: -4, Over: -5, Next: -6, Per: -7, Least: -8, Most: -9, Load: -10, Cool: -11}
	for what, e := range stewOfEach() {
		full := e
		if e.Kind != impl.StewWish {
			full.Service = junk
		}
		if e.Kind == impl.StewTick || e.Kind == impl.StewWish {
			full.Name = "\xff"
		}
		if e.Kind != impl.StewFails && e.Kind != impl.StewLoad {
			full.Number = math.MinInt
		}
		if e.Kind != impl.StewRaise {
			full.Flag = true
		}
		want, _ := stewSeaBy(stewFleet(), e)
		stewBefalls(t, what, stewFleet(), full, want, 0)
		if e.Kind != impl.StewWish {
			full.Service = stewPlain("web")
			stewBefalls(t, what+", with a good service", stewFleet(), full, want, 0)
		}
		if e.Kind == impl.StewTick || e.Kind == impl.StewWish {
			full.Name = "b1"
			stewBefalls(t, what+", with a good name", stewFleet(), full, want, 0)
		}
	}
}

// stewQuay is of one service, web, with berths such as "a b!" (! is to be drained) and copies such as "1 3a 2b*": a State, a Berth, and * if it is Ending. Numbers are from 1 on, Versions from 11.
func stewQuay(berths, copies string) impl.StewBook {
	b := impl.StewBook{Now: 80, Services: []impl.StewService{{Name: "web", Version: 9, Image: 2, Want: 3, Down: 1, Over: 1, Next: 50}}}
	for _, name := range strings.Fields(berths) {
		b.Berths = append(b.Berths, impl.StewBerth{Name: strings.TrimSuffix(name, "!"), Drain: strings.HasSuffix(name, "!")})
	}
	for i, text := range strings.Fields(copies) {
		berth := strings.TrimSuffix(text[1:], "*")
		b.Copies = append(b.Copies, impl.StewCopy{Service: "web", Number: i + 1, Version: i + 11, Image: 2 - i%2, State: int(text[0] - '0'), Ending: strings.HasSuffix(text, "*"), Berth: berth})
	}
	return b
}

// stewQuayAfter is a quay whose copies became such as "3:2a+": a Number, a State, a Berth, * if it is Ending, and + if it has the new Version.
func stewQuayAfter(b impl.StewBook, copies string) []impl.StewCopy {
	var list []impl.StewCopy
	for _, text := range strings.Fields(copies) {
		number := 0
		if _, err := fmt.Sscanf(text, "%d:", &number); err != nil {
			panic(err)
		}
		c := b.Copies[number-1]
		rest := text[strings.Index(text, ":")+1:]
		c.State, c.Berth = int(rest[0]-'0'), strings.TrimRight(rest[1:], "*+")
		if strings.HasSuffix(rest, "+") {
			c.Version = b.Now + 1
		}
		list = append(list, c)
	}
	return list
}

type stewQuayCase struct {
	what, berths, copies, behind string
}

func stewCheckTicks(t *testing.T, cases []stewQuayCase) {
	t.Helper()
	for _, c := range cases {
		b := stewQuay(c.berths, c.copies)
		stewHappens(t, c.what, b, stewTickOf(), func(next *impl.StewBook) { next.Copies = stewQuayAfter(b, c.behind) })
	}
}

func TestStewTickStates(t *testing.T) {
	stewCheckTicks(t, []stewQuayCase{
		{"one that waits", "a", "1", "1:2a+"},
		{"one that starts", "a", "2a", "1:3a+"},
		{"one that is ready", "a", "3a", "1:3a"},
		{"one that failed", "a", "4a", "1:4a"},
		{"one that waits, Ending", "a", "1*", ""},
		{"one that starts, Ending", "a", "2a*", ""},
		{"one that is ready, Ending", "a", "3a*", ""},
		{"one that failed, Ending", "a", "4a*", ""},
		{"one of each", "a", "1 2a 3a 4a 1* 2a* 3a* 4a*", "1:2a+ 2:3a+ 3:3a 4:4a"},
		{"one of each, the Ending ones first", "a", "1* 2a* 3a* 4a* 1 2a 3a 4a", "5:2a+ 6:3a+ 7:3a 8:4a"},
		{"one of each, mixed", "a", "4a 1* 3a 2a* 2a 3a* 1 4a*", "1:4a 3:3a 5:3a+ 7:2a+"},
		{"one that starts on a berth that is to be drained", "a!", "2a", "1:3a+"},
		{"one that is ready on a berth that is to be drained", "a!", "3a", "1:3a"},
		{"one that failed on a berth that is to be drained", "a!", "4a", "1:4a"},
		{"Ending ones on a berth that is to be drained", "a!", "3a* 2a* 4a*", ""},
		{"several that start", "a b", "2a 2b 2a 3b", "1:3a+ 2:3b+ 3:3a+ 4:3b"},
	})
}

func TestStewTickNothing(t *testing.T) {
	stewCheckTicks(t, []stewQuayCase{
		{"no copies", "a b!", "", ""},
		{"no berths and no copies", "", "", ""},
		{"ready ones and failed ones", "a b!", "3a 4a 3b 4b", "1:3a 2:4a 3:3b 4:4b"},
		{"one that waits for a berth", "", "1", "1:1"},
		{"some that wait, all berths to be drained", "a! b!", "1 3a 1", "1:1 2:3a 3:1"},
	})
	stewHappens(t, "nothing at all", impl.StewBook{}, stewTickOf(), func(*impl.StewBook) {})
	stewHappens(t, "berths alone", impl.StewBook{Now: 6, Berths: stewFleet().Berths}, stewTickOf(), func(*impl.StewBook) {})
	stewHappens(t, "services alone", stewCrowd(8, 0, 6), stewTickOf(), func(*impl.StewBook) {})
}

func TestStewTickBerths(t *testing.T) {
	stewCheckTicks(t, []stewQuayCase{
		{"the first of several that are empty", "a b c", "1", "1:2a+"},
		{"the empty one, the last", "a b c", "3a 3b 1", "1:3a 2:3b 3:2c+"},
		{"the empty one, in the midst", "a b c", "3a 3c 1", "1:3a 2:3c 3:2b+"},
		{"the empty one, the first", "a b c", "3b 3c 1", "1:3b 2:3c 3:2a+"},
		{"the first of those with as many", "a b c", "3a 3b 3c 1", "1:3a 2:3b 3:3c 4:2a+"},
		{"the first of two with as many, the first one having more", "a b c", "3a 3a 3b 3c 1", "1:3a 2:3a 3:3b 4:3c 5:2b+"},
		{"the first and the last with as many", "a b c", "3a 3b 3b 3c 1", "1:3a 2:3b 3:3b 4:3c 5:2a+"},
		{"the one with the fewest, none being empty", "a b c", "3a 3a 3a 3b 3b 3c 3c 3c 1", "1:3a 2:3a 3:3a 4:3b 5:3b 6:3c 7:3c 8:3c 9:2b+"},
		{"failed ones stand, too", "a b", "4a 4a 3b 1", "1:4a 2:4a 3:3b 4:2b+"},
		{"those that start stand, too", "a b", "2a 2a 3b 1", "1:3a+ 2:3a+ 3:3b 4:2b+"},
		{"those behind it in order stand, too", "a b", "1 3a 3a 3b", "1:2b+ 2:3a 3:3a 4:3b"},
		{"the order of berths, not that of copies", "a b", "3b 3a 1", "1:3b 2:3a 3:2a+"},

		{"the emptiest is to be drained", "a! b c", "3b 3c 3c 1", "1:3b 2:3c 3:3c 4:2b+"},
		{"the emptiest is to be drained, the last", "a b c!", "3a 3a 3b 1", "1:3a 2:3a 3:3b 4:2b+"},
		{"all but the fullest are to be drained", "a! b c!", "3b 3b 3b 1 1", "1:3b 2:3b 3:3b 4:2b+ 5:2b+"},
		{"all are to be drained", "a! b! c!", "1 3a 2b 1", "1:1 2:3a 3:3b+ 4:1"},
		{"the only one is to be drained", "a!", "1 1* 1", "1:1 3:1"},
		{"no berth at all", "", "1 1* 1", "1:1 3:1"},
	})
}

func TestStewTickSeveral(t *testing.T) {
	stewCheckTicks(t, []stewQuayCase{
		{"one after the other", "a b c", "1 1 1 1 1", "1:2a+ 2:2b+ 3:2c+ 4:2a+ 5:2b+"},
		{"where there are fewer, until there are as many", "a b c", "3a 3a 1 1 1 1 1", "1:3a 2:3a 3:2b+ 4:2c+ 5:2b+ 6:2c+ 7:2a+"},
		{"between others", "a b", "1 3a 1 3a 1 3b 1", "1:2b+ 2:3a 3:2a+ 4:3a 5:2b+ 6:3b 7:2a+"},
		{"past one that is to be drained", "a b! c", "1 1 1 3c", "1:2a+ 2:2a+ 3:2c+ 4:3c"},
		{"to one berth", "a", "1 1 1", "1:2a+ 2:2a+ 3:2a+"},

		{"an Ending one is gone ahead of the count", "a b", "3a* 3a* 3b 1", "3:3b 4:2a+"},
		{"an Ending one behind it is gone ahead of the count", "a b", "1 3b 3a* 3a*", "1:2a+ 2:3b"},
		{"Ending ones of each State are gone ahead of the count", "a b", "2a* 3a* 4a* 3b 1 1 1", "4:3b 5:2a+ 6:2a+ 7:2b+"},
		{"Ending ones on the first, which is emptier without them", "a b", "3a 3a* 3b 3b 1", "1:3a 3:3b 4:3b 5:2a+"},
		{"Ending ones on the second, which is emptier without them", "a b", "3a 3b* 3b* 1", "1:3a 4:2b+"},
		{"Ending ones that wait need no berth", "a b", "1* 1 1* 1 1*", "2:2a+ 4:2b+"},
		{"Ending ones on all", "a b c", "3a* 3b* 3c* 3a 3b 1", "4:3a 5:3b 6:2c+"},
	})
	crowd := stewCrowd(8, 200, 6)
	stewHappens(t, "all that there may be", crowd, stewTickOf(), func(b *impl.StewBook) {
		for i := range b.Copies {
			b.Copies[i].State, b.Copies[i].Berth, b.Copies[i].Version = impl.StewStarting, b.Berths[i%6].Name, 4
		}
	})
}

// Those that wait go in the order of services, and berths are shared by all of these.
func TestStewTickServices(t *testing.T) {
	b := stewFleet()
	b.Copies[stewOldCopy].Ending = false
	b.Copies = slices.Insert(b.Copies, stewOldCopy, impl.StewCopy{Service: "old", Number: 1, Version: 3, Image: 1, State: impl.StewWaiting})
	// b1 has three and b2 is to be drained: old's own copy stands on b3 alone.
	stewHappens(t, "one more of old", b, stewTickOf(), func(b *impl.StewBook) {
		b.Copies[1].State, b.Copies[1].Version = impl.StewReady, 41
		b.Copies[2].State, b.Copies[2].Berth, b.Copies[2].Version = impl.StewStarting, "b3", 41
		b.Copies[6].State, b.Copies[6].Berth, b.Copies[6].Version = impl.StewStarting, "b3", 41
		b.Copies = b.Copies[:7]
	})
	stewHappens(t, "the fleet", stewFleet(), stewTickOf(), func(b *impl.StewBook) {
		b.Copies[stewNextCopy].State, b.Copies[stewNextCopy].Version = impl.StewReady, 41
		b.Copies[stewWaitingCopy].State, b.Copies[stewWaitingCopy].Berth, b.Copies[stewWaitingCopy].Version = impl.StewStarting, "b3", 41
		b.Copies = slices.Delete(b.Copies[:stewLastCopy], stewOldCopy, stewOldCopy+1)
	})
}

// All quays with up to four copies of any sort, whichever of two berths are to be drained.
func TestStewTickAll(t *testing.T) {
	t.Parallel()
	sorts := []string{"1", "2a", "3b", "4a", "1*", "2b*", "3a*", "4b*"}
	for _, berths := range []string{"a b", "a! b", "a b!", "a! b!", "a b c", "a b c!"} {
		for n := range 1 << 12 {
			copies := fmt.Sprint(sorts[n&7], " ", sorts[n>>3&7], " ", sorts[n>>6&7], " ", sorts[n>>9])
			b := stewQuay(berths, copies)
			want, _ := stewSeaBy(b, stewTickOf())
			stewBefalls(t, berths+": "+copies, b, stewTickOf(), want, 0)
		}
	}
}

// stewWished is the service of a wish as the book has it then.
func stewWished(s impl.StewService, version, next int) impl.StewService {
	s.Version, s.Next, s.Cool = version, next, 0
	return s
}

func TestStewWishThere(t *testing.T) {
	loaded := impl.StewService{Name: "web", Gone: true, Image: 1000000, Want: 10, Down: 10, Over: 10, Per: 1000000, Least: 10, Most: 10, Load: 1000000}
	for what, c := range map[string]struct {
		place int
		wish  impl.StewService
		next  int
	}{
		"all else":                        {stewWeb, loaded, 20},
		"the least of all":                {stewWeb, impl.StewService{Name: "web", Image: 1, Over: 1}, 20},
		"the least of all, by Down":       {stewApi, impl.StewService{Name: "api", Image: 1, Down: 1}, 4},
		"as it was":                       {stewWeb, stewFleet().Services[stewWeb], 20},
		"as it was, its Cool not being 0": {stewApi, stewFleet().Services[stewApi], 4},
		"no load to follow any longer":    {stewApi, impl.StewService{Name: "api", Image: 7, Want: 2, Down: 1}, 4},
		"another load to follow":          {stewApi, impl.StewService{Name: "api", Image: 7, Want: 9, Down: 1, Per: 1, Most: 3, Load: 77}, 4},
		"a load to follow from now on":    {stewWeb, impl.StewService{Name: "web", Image: 2, Want: 3, Down: 1, Per: 5, Least: 2, Most: 2}, 20},
		"Gone":                            {stewWeb, impl.StewService{Name: "web", Gone: true, Image: 2, Want: 3, Down: 1, Over: 1}, 20},
		"Gone no longer":                  {stewOld, impl.StewService{Name: "old", Image: 2, Want: 3, Over: 2}, 6},
		"Gone as it was":                  {stewOld, stewFleet().Services[stewOld], 6},
		"one without copies":              {stewSpare, stewPlain("spare"), 1},
	} {
		// Whatever a wish says of these, it is not looked at.
		for _, number := range []int{0, 1, 3, 50, -1, 1000001, math.MinInt, math.MaxInt} {
			wish := c.wish
			wish.Version, wish.Next, wish.Cool = number, number, number
			stewHappens(t, fmt.Sprintf("%s, else %d", what, number), stewFleet(), stewWishOf(wish), func(b *impl.StewBook) {
				b.Services[c.place] = stewWished(c.wish, 41, c.next)
			})
		}
	}
}

func TestStewWishNew(t *testing.T) {
	for name, place := range map[string]int{"a": 0, "-": 0, "ap": 0, "apis": 1, "b1": 1, "mid": 1, "older": 2, "s": 2, "spare-": 3, "we": 3, "webs": 4, "zoo": 4, letters(20): 0} {
		for _, number := range []int{0, 1, 3, 50, -1, 1000001, math.MinInt, math.MaxInt} {
			wish := stewPlain(name)
			wish.Version, wish.Next, wish.Cool = number, number, number
			stewHappens(t, fmt.Sprintf("%s, else %d", name, number), stewFleet(), stewWishOf(wish), func(b *impl.StewBook) {
				b.Services = slices.Insert(b.Services, place, stewWished(wish, 41, 1))
			})
		}
		for what, wish := range map[string]impl.StewService{
			"Gone":              {Name: name, Gone: true, Image: 3, Over: 1},
			"that has its load": {Name: name, Image: 3, Want: 9, Over: 1, Per: 4, Least: 1, Most: 2, Load: 1000000},
		} {
			stewHappens(t, name+" "+what, stewFleet(), stewWishOf(wish), func(b *impl.StewBook) {
				b.Services = slices.Insert(b.Services, place, stewWished(wish, 41, 1))
			})
		}
	}
	stewHappens(t, "the first of all", impl.StewBook{}, stewWishOf(stewPlain("web")), func(b *impl.StewBook) {
		b.Services = []impl.StewService{stewWished(stewPlain("web"), 1, 1)}
	})
}

// Each number of a wish stands from its least to its most, whether the service is there or new.
func TestStewWishNumbers(t *testing.T) {
	for _, f := range []struct {
		what        string
		per         int
		least, most int
		put         func(*impl.StewService, int)
	}{
		{"Image", 0, 1, 1000000, func(s *impl.StewService, n int) { s.Image = n }},
		{"Want", 0, 0, 10, func(s *impl.StewService, n int) { s.Want = n }},
		{"Down", 0, 0, 10, func(s *impl.StewService, n int) { s.Down = n }},
		{"Over", 0, 0, 10, func(s *impl.StewService, n int) { s.Over = n }},
		{"Down without an Over", 0, 1, 10, func(s *impl.StewService, n int) { s.Down, s.Over = n, 0 }},
		{"Over without a Down", 0, 1, 10, func(s *impl.StewService, n int) { s.Down, s.Over = 0, n }},
		{"Per", 0, 0, 1000000, func(s *impl.StewService, n int) { s.Per = n }},
		{"Per with a Load", 1, 1, 1000000, func(s *impl.StewService, n int) { s.Per, s.Load = n, 3 }},
		{"Load", 5, 0, 1000000, func(s *impl.StewService, n int) { s.Load = n }},
		{"Load of a Per of 0", 0, 0, 0, func(s *impl.StewService, n int) { s.Load = n }},
		{"Least", 5, 0, 6, func(s *impl.StewService, n int) { s.Least, s.Most = n, 6 }},
		{"Least of a Per of 0", 0, 0, 0, func(s *impl.StewService, n int) { s.Least = n }},
		{"Most", 5, 4, 10, func(s *impl.StewService, n int) { s.Least, s.Most = 4, n }},
		{"Most of a Per of 0", 0, 0, 0, func(s *impl.StewService, n int) { s.Most = n }},
		{"Least and Most", 5, 0, 10, func(s *impl.StewService, n int) { s.Least, s.Most = n, n }},
	} {
		for _, n := range []int{math.MinInt, f.least - 2, f.least - 1, f.least, f.most, f.most + 1, f.most + 2, math.MaxInt, -1, 0} {
			for _, name := range []string{"web", "api", "new"} {
				wish := stewPlain(name)
				wish.Per = f.per
				f.put(&wish, n)
				what := fmt.Sprintf("%s of %d for %s", f.what, n, name)
				if n < f.least || n > f.most {
					stewRefuses(t, what, stewFleet(), stewWishOf(wish), 2)
				} else if _, code := impl.StewSea(stewFleet(), stewWishOf(wish)); code != 0 {
					t.Errorf("%s: %d", what, code)
				}
			}
		}
	}
}

func TestStewWishNames(t *testing.T) {
	for _, name := range stewWrongNames() {
		stewRefuses(t, fmt.Sprintf("%q", name), stewFleet(), stewWishOf(stewPlain(name)), 2)
		stewRefuses(t, fmt.Sprintf("%q, of nothing", name), impl.StewBook{}, stewWishOf(stewPlain(name)), 2)
	}
	for _, name := range stewRightNames() {
		stewHappens(t, fmt.Sprintf("%q", name), impl.StewBook{}, stewWishOf(stewPlain(name)), func(b *impl.StewBook) {
			b.Services = []impl.StewService{stewWished(stewPlain(name), 1, 1)}
		})
	}
	stewRefuses(t, "nothing", stewFleet(), impl.StewEvent{Kind: impl.StewWish}, 2)
	stewRefuses(t, "nothing but a name", stewFleet(), stewWishOf(impl.StewService{Name: "web"}), 2)
	// The Name of the event is that of other events.
	stewRefuses(t, "a name beside the service", stewFleet(), impl.StewEvent{Kind: impl.StewWish, Service: stewPlain(""), Name: "web"}, 2)
}

func TestStewWishMany(t *testing.T) {
	for _, name := range []string{"a", "s03-", "zoo"} {
		stewRefuses(t, "one too many, "+name, stewCrowd(8, 200, 6), stewWishOf(stewPlain(name)), 2)
		if got, code := impl.StewSea(stewCrowd(7, 200, 6), stewWishOf(stewPlain(name))); code != 0 || len(got.Services) != 8 {
			t.Errorf("the last that there may be, %s: %d and %+v", name, code, got.Services)
		}
	}
	for place, name := range []string{"s00", "s01", "s02", "s03", "s04", "s05", "s06", "s07"} {
		stewHappens(t, "one of all, "+name, stewCrowd(8, 200, 6), stewWishOf(stewPlain(name)), func(b *impl.StewBook) {
			b.Services[place] = stewWished(stewPlain(name), 4, 201)
		})
	}
}

func TestStewFails(t *testing.T) {
	for state := impl.StewWaiting; state <= impl.StewFailed; state++ {
		for _, ending := range []bool{false, true} {
			for _, berths := range []string{"a b", "a! b!"} {
				b := stewQuay(berths, "3a 3a 3b")
				b.Copies[1].State, b.Copies[1].Ending = state, ending
				if state == impl.StewWaiting {
					b.Copies[1].Berth = ""
				}
				what := fmt.Sprintf("State %d, Ending %v, berths %s", state, ending, berths)
				if state == impl.StewStarting || state == impl.StewReady {
					stewHappens(t, what, b, stewFailOf("web", 2), func(b *impl.StewBook) {
						b.Copies[1].State, b.Copies[1].Version = impl.StewFailed, 81
					})
				} else {
					stewRefuses(t, what, b, stewFailOf("web", 2), 3)
				}
			}
		}
	}
	for at, c := range []struct {
		service string
		number  int
	}{{"api", 1}, {"api", 3}, {"old", 2}, {"web", 2}} {
		stewHappens(t, fmt.Sprint("one of several services: ", c), stewFleet(), stewFailOf(c.service, c.number), func(b *impl.StewBook) {
			b.Copies[at].State, b.Copies[at].Version = impl.StewFailed, 41
		})
	}
}

func TestStewFailsNone(t *testing.T) {
	for _, number := range []int{0, 1, 3, 8, 11, 18, 20, 1000000, -1, -2, math.MinInt, math.MaxInt} {
		stewRefuses(t, fmt.Sprintf("no such copy: %d", number), stewFleet(), stewFailOf("web", number), 3)
	}
	for _, service := range []string{"", "a", "ap", "apis", "we", "webs", "WEB", "b1", "web ", "\xff", "zebra", letters(21)} {
		for _, number := range []int{0, 1, 2, 3} {
			stewRefuses(t, fmt.Sprintf("no such service: %q", service), stewFleet(), stewFailOf(service, number), 3)
		}
	}
	stewRefuses(t, "another's Number", stewFleet(), stewFailOf("api", 2), 3)
	stewRefuses(t, "a service without copies", stewFleet(), stewFailOf("spare", 1), 3)
	stewRefuses(t, "nothing at all", impl.StewBook{}, stewFailOf("web", 1), 3)
	stewRefuses(t, "nothing at all, of no name", impl.StewBook{}, stewFailOf("", 0), 3)
	stewRefuses(t, "a service beside the name", stewFleet(), impl.StewEvent{Kind: impl.StewFails, Service: impl.StewService{Name: "web"}, Number: 2}, 3)
	// It fails once.
	failed, _ := impl.StewSea(stewFleet(), stewFailOf("web", 2))
	stewRefuses(t, "a second time", failed, stewFailOf("web", 2), 3)
}

func TestStewSinks(t *testing.T) {
	copies := "3a 1 3b* 2b 4b 3a* 3b 1* 4a"
	for _, c := range []struct {
		what, berths, copies, sinks, berthsBehind, copiesBehind string
	}{
		{"the first", "a b c", copies, "a", "b c", "2:1 3:3b* 4:2b 5:4b 7:3b 8:1*"},
		{"the one in the midst", "a b c", copies, "b", "a c", "1:3a 2:1 6:3a* 8:1* 9:4a"},
		{"the last, without copies", "a b c", copies, "c", "a b", "1:3a 2:1 3:3b* 4:2b 5:4b 6:3a* 7:3b 8:1* 9:4a"},
		{"one that is to be drained", "a! b c", copies, "a", "b c", "2:1 3:3b* 4:2b 5:4b 7:3b 8:1*"},
		{"one of others that are to be drained", "a! b c!", copies, "b", "a! c!", "1:3a 2:1 6:3a* 8:1* 9:4a"},
		{"one with nothing but Ending copies", "a b", "3a* 3b 4a*", "a", "b", "2:3b"},
		{"one with all copies", "a b", "3b 3b* 2b 4b", "b", "a", ""},
		{"the only one", "a", "3a 1 3a* 1*", "a", "", "2:1 4:1*"},
		{"the only one, without copies", "a", "", "a", "", ""},
	} {
		b := stewQuay(c.berths, c.copies)
		stewHappens(t, c.what, b, stewSinkOf(c.sinks), func(next *impl.StewBook) {
			next.Berths, next.Copies = stewQuay(c.berthsBehind, "").Berths, stewQuayAfter(b, c.copiesBehind)
		})
	}
	stewHappens(t, "one with copies of several services", stewFleet(), stewSinkOf("b1"), func(b *impl.StewBook) {
		b.Berths = b.Berths[1:]
		b.Copies = []impl.StewCopy{b.Copies[stewNextCopy], b.Copies[stewOldCopy], b.Copies[stewWaitingCopy], b.Copies[stewLastCopy]}
	})
}

func TestStewSinksNone(t *testing.T) {
	for _, name := range append([]string{"b", "b0", "b11", "b2-", "b4", "web", "api", "zebra"}, stewWrongNames()...) {
		stewRefuses(t, fmt.Sprintf("%q", name), stewFleet(), stewSinkOf(name), 3)
	}
	stewRefuses(t, "nothing at all", impl.StewBook{}, stewSinkOf("b1"), 3)
	stewRefuses(t, "no name, with copies that wait", stewQuay("a", "1 1*"), stewSinkOf(""), 3)
	sunk, _ := impl.StewSea(stewFleet(), stewSinkOf("b1"))
	stewRefuses(t, "a second time", sunk, stewSinkOf("b1"), 3)
}

func TestStewRaises(t *testing.T) {
	for _, c := range []struct {
		what, berths, raised string
		drain                bool
		behind               string
	}{
		{"one that is there, with Flag", "a b c", "b", true, "a b! c"},
		{"one that is there, with Flag as it was", "a b! c", "b", true, "a b! c"},
		{"one that is there, without Flag", "a! b! c!", "b", false, "a! b c!"},
		{"one that is there, without Flag as it was", "a! b c!", "b", false, "a! b c!"},
		{"the first, with Flag", "a b c", "a", true, "a! b c"},
		{"the last, with Flag", "a b c", "c", true, "a b c!"},
		{"the only one, without Flag", "a!", "a", false, "a"},
		{"one at the front", "b c", "a", false, "a b c"},
		{"one at the front, with Flag", "b c", "a", true, "a! b c"},
		{"one in the midst", "a! c!", "b", false, "a! b c!"},
		{"one in the midst, with Flag", "a c", "b", true, "a b! c"},
		{"one behind all others", "a b", "c", false, "a b c"},
		{"one behind all others, with Flag", "a b!", "c", true, "a b! c!"},
		{"the first of all", "", "a", false, "a"},
		{"the first of all, with Flag", "", "a", true, "a!"},
		{"one whose name begins with another's", "a b", "a-", false, "a a- b"},
		{"one whose name another begins with", "aa ab", "a", true, "a! aa ab"},
		{"one of a service's name", "a", "web", false, "a web"},
		{"the last that there may be", "a b c d e", "f", false, "a b c d e f"},
		{"the last that there may be, in the midst", "a b c d f", "e", true, "a b c d e! f"},
		{"one of all that there may be", "a b c d e f", "f", true, "a b c d e f!"},
		{"one of all that there may be, the first", "a! b c d e f", "a", false, "a b c d e f"},
	} {
		b := stewQuay(c.berths, "")
		if len(b.Berths) > 0 {
			b = stewQuay(c.berths, strings.ReplaceAll("3_ 1 2_* 1* 4_", "_", b.Berths[0].Name))
		}
		stewHappens(t, c.what, b, stewRaiseOf(c.raised, c.drain), func(b *impl.StewBook) {
			b.Berths = stewQuay(c.behind, "").Berths
		})
	}
}

func TestStewRaisesRefused(t *testing.T) {
	for _, drain := range []bool{false, true} {
		for _, name := range stewWrongNames() {
			stewRefuses(t, fmt.Sprintf("%q", name), stewFleet(), stewRaiseOf(name, drain), 2)
			stewRefuses(t, fmt.Sprintf("%q, of nothing", name), impl.StewBook{}, stewRaiseOf(name, drain), 2)
		}
		for _, name := range stewRightNames() {
			stewHappens(t, fmt.Sprintf("%q", name), impl.StewBook{}, stewRaiseOf(name, drain), func(b *impl.StewBook) {
				b.Berths = []impl.StewBerth{{Name: name, Drain: drain}}
			})
		}
		for _, name := range []string{"a", "b03-", "web", "B"} {
			stewRefuses(t, "one too many: "+name, stewCrowd(8, 200, 6), stewRaiseOf(name, drain), 2)
		}
	}
}

func TestStewLoads(t *testing.T) {
	for _, load := range []int{0, 1, 89, 90, 91, 999999, 1000000} {
		stewHappens(t, fmt.Sprintf("a load of %d", load), stewFleet(), stewLoadOf("api", load), func(b *impl.StewBook) {
			b.Services[stewApi].Load, b.Services[stewApi].Version = load, 41
		})
		gone := stewTurned(stewOfService(stewApi, func(s *impl.StewService) { s.Gone, s.Per, s.Cool, s.Want = true, 1, 3, 10 }))
		stewHappens(t, fmt.Sprintf("a load of %d, Gone", load), gone, stewLoadOf("api", load), func(b *impl.StewBook) {
			b.Services[stewApi].Load, b.Services[stewApi].Version = load, 41
		})
	}
	for _, load := range []int{-1, -2, 1000001, 1000002, math.MinInt, math.MaxInt} {
		stewRefuses(t, fmt.Sprintf("a load of %d", load), stewFleet(), stewLoadOf("api", load), 2)
	}
	b := stewTogether([]impl.StewBook{stewFollows(5, 1, 0, 1, 1, 1), stewFollows(6, 2, 1, 2, 2, 2), stewHas(1, 1, 1), stewFollows(7, 3, 2, 3, 3, 3)})
	for place, name := range map[int]string{0: "s0", 1: "s1", 3: "s3"} {
		stewHappens(t, "one of several services: "+name, b, stewLoadOf(name, 44), func(b *impl.StewBook) {
			b.Services[place].Load, b.Services[place].Version = 44, 1000
		})
	}
	stewRefuses(t, "the one between that follows none", b, stewLoadOf("s2", 44), 3)
}

// A service that is not there, or follows no load, is told of whatever the load is.
func TestStewLoadsNone(t *testing.T) {
	for _, load := range []int{0, 1, 1000000, -1, 1000001, math.MinInt, math.MaxInt} {
		for _, name := range []string{"web", "old", "spare", "", "a", "ap", "apis", "API", "b1", "zebra", "\xff", letters(21)} {
			stewRefuses(t, fmt.Sprintf("%d for %q", load, name), stewFleet(), stewLoadOf(name, load), 3)
		}
		stewRefuses(t, fmt.Sprintf("%d for nothing at all", load), impl.StewBook{}, stewLoadOf("api", load), 3)
		stewRefuses(t, "a service beside the name", stewFleet(), impl.StewEvent{Kind: impl.StewLoad, Service: impl.StewService{Name: "api"}, Number: load}, 3)
	}
}
