package tests

import (
	"fmt"
	"math"
	"slices"
	"testing"

	"loop.example/wharfdesk/impl"
)

// stewAlone is a world that remembers nothing.
func stewAlone(b impl.StewBook) impl.StewWorld {
	return impl.StewWorld{Book: b}
}

// stewAtNow is a book with nothing but a Now.
func stewAtNow(now int) impl.StewBook {
	return impl.StewBook{Now: now}
}

// stewSince is a world of such books: the Book's Now, and those of Past.
func stewSince(now int, past ...int) impl.StewWorld {
	w := stewAlone(stewAtNow(now))
	for _, n := range past {
		w.Past = append(w.Past, stewAtNow(n))
	}
	return w
}

func stewNows(w impl.StewWorld) []int {
	var nows []int
	for _, b := range stewRemembered(w) {
		nows = append(nows, b.Now)
	}
	return nows
}

func stewIsOkAs(t *testing.T, what string, w impl.StewWorld, want bool) {
	t.Helper()
	w = spread(w)
	before := whole(w)
	if got := impl.StewWorldOk(w); got != want {
		t.Errorf("%s: %v", what, got)
	}
	if !same(whole(w), before) {
		t.Errorf("%s: the world was changed", what)
	}
}

func TestStewWorldOkNows(t *testing.T) {
	stewIsOkAs(t, "nothing", impl.StewWorld{}, true)
	for _, c := range []struct {
		now  int
		past []int
		want bool
	}{
		{5, nil, true}, {0, []int{0}, true}, {1000000, []int{1000000}, true}, {1000000, []int{0}, true},
		{5, []int{4}, true}, {5, []int{5}, true}, {5, []int{6}, false}, {5, []int{0}, true}, {0, []int{1}, false},
		{5, []int{1, 3, 4}, true}, {5, []int{3, 3, 3}, true}, {5, []int{5, 5, 5}, true}, {5, []int{1, 1, 2, 2, 5, 5}, true},
		{5, []int{4, 3}, false}, {5, []int{3, 4, 3}, false}, {5, []int{2, 1, 3}, false}, {5, []int{1, 3, 2}, false},
		{5, []int{6, 5}, false}, {5, []int{1, 6, 5}, false}, {5, []int{1, 2, 6}, false}, {5, []int{6, 6, 6}, false}, {5, []int{6, 7}, false}, {5, []int{6, 1}, false},
		{-1, nil, false}, {1000001, nil, false}, {5, []int{-1}, false}, {5, []int{-1, 2}, false}, {1000000, []int{1000001}, false}, {1000001, []int{1000001}, false},
		{-1, []int{-1}, false}, {math.MaxInt, []int{1}, false}, {5, []int{math.MinInt}, false}, {math.MinInt, []int{math.MinInt}, false},
		{9, []int{1, 2, 3, 4, 5, 6, 7, 8}, true}, {9, []int{1, 2, 3, 4, 5, 6, 7, 8, 9}, false}, {8, []int{1, 2, 3, 4, 5, 6, 7, 8}, true},
		{4, []int{4, 4, 4, 4, 4, 4, 4, 4}, true}, {4, []int{4, 4, 4, 4, 4, 4, 4, 4, 4}, false}, {0, make([]int, 8), true}, {0, make([]int, 9), false}, {0, make([]int, 10), false}, {0, make([]int, 500), false},
		{9, []int{1, 2, 3, 4, 5, 6, 7, 10}, false}, {9, []int{2, 1, 3, 4, 5, 6, 7, 8}, false}, {9, []int{1, 2, 3, 4, 5, 6, 8, 7}, false},
	} {
		stewIsOkAs(t, fmt.Sprintf("%d behind %v", c.now, c.past), stewSince(c.now, c.past...), c.want)
	}
}

// Books of a world need not have anything in common.
func TestStewWorldOkBooks(t *testing.T) {
	good := []impl.StewBook{stewAtNow(0), stewCrowd(8, 200, 6), stewFleet(), stewBusy(), stewCalmFleet()}
	stewIsOkAs(t, "a fleet", stewAlone(stewFleet()), true)
	stewIsOkAs(t, "several", impl.StewWorld{Past: good, Book: stewBusy()}, true)
	stewIsOkAs(t, "nothing behind fleets", impl.StewWorld{Past: good, Book: stewAtNow(40)}, true)
	for what, turn := range stewSpoilt() {
		bad := stewTurned(turn)
		stewIsOkAs(t, what, stewAlone(bad), false)
		stewIsOkAs(t, what+", behind nothing", impl.StewWorld{Past: good[:1], Book: bad}, false)
		for place := range len(good) + 1 {
			past := slices.Insert(slices.Clone(good), place, bad)
			stewIsOkAs(t, fmt.Sprintf("%s, in Past at %d", what, place), impl.StewWorld{Past: past, Book: stewAtNow(1000000)}, false)
		}
		stewIsOkAs(t, what+", alone in Past", impl.StewWorld{Past: []impl.StewBook{bad}, Book: stewAtNow(1000000)}, false)
	}
	stewIsOkAs(t, "one copy too many", stewAlone(stewCrowd(8, 201, 6)), false)
	stewIsOkAs(t, "one copy too many, in Past", impl.StewWorld{Past: []impl.StewBook{stewCrowd(8, 201, 6)}, Book: stewAtNow(40)}, false)
}

// stewDoes does a move, and says that it leads to this world and tells these codes, that the world that is handed in stays as it is, and that the answer is memory of its own; an ok world stays ok.
func stewDoes(t *testing.T, what string, w impl.StewWorld, m impl.StewMove, want impl.StewWorld, codes ...int) {
	t.Helper()
	w = spread(w)
	before := whole(w)
	got, told := impl.StewDo(w, m)
	if !same(got, want) {
		t.Errorf("%s: %+v, not %+v", what, got, want)
	}
	if !slices.Equal(told, codes) {
		t.Errorf("%s: codes %v, not %v", what, told, codes)
	}
	if !impl.StewWorldOk(got) {
		t.Errorf("%s: the world behind it is not ok", what)
	}
	if !same(whole(w), before) {
		t.Errorf("%s: the world was changed", what)
	}
	newMemory(t, what, struct {
		World impl.StewWorld
		Codes []int
	}{got, told}, w)
}

// stewDoesAs is stewDoes, where the world is that of the second reading.
func stewDoesAs(t *testing.T, what string, w impl.StewWorld, m impl.StewMove, codes ...int) {
	t.Helper()
	if !impl.StewWorldOk(w) {
		t.Errorf("%s: the world was not ok", what)
	}
	want, _ := stewMovedBy(w, m)
	stewDoes(t, what, w, m, want, codes...)
}

func stewLook(kind, age int) impl.StewMove {
	return impl.StewMove{Steward: kind, Age: age}
}

func TestStewDoEach(t *testing.T) {
	for kind, acts := range stewBusyAsks() {
		books := []impl.StewBook{stewBusy()}
		for _, a := range acts {
			next, code := stewAppliedBy(books[len(books)-1], stewSeenIn(stewBusy(), a.Service, a))
			if code != 0 {
				t.Errorf("%d: code %d of %+v", kind, code, a)
			}
			books = append(books, next)
		}
		last := len(books) - 1
		want := impl.StewWorld{Past: books[:last], Book: books[last]}
		stewDoes(t, fmt.Sprintf("steward %d", kind), stewAlone(stewBusy()), stewLook(kind, 0), want, make([]int, last)...)
	}
	// Once without the help of a second reading: the mender, who asks for two.
	first, second := stewBusy(), stewBusy()
	turn := func(b *impl.StewBook, service, at, now int) {
		b.Now, b.Services[service].Version = now, now
		b.Copies[at].Version, b.Copies[at].Ending = now, true
	}
	turn(&first, stewWeb, stewFailedCopy, 41)
	turn(&second, stewWeb, stewFailedCopy, 41)
	turn(&second, 4, 7, 42)
	want := impl.StewWorld{Past: []impl.StewBook{stewFleet(), stewBusy(), first}, Book: second}
	stewDoes(t, "the mender", impl.StewWorld{Past: []impl.StewBook{stewFleet()}, Book: stewBusy()}, stewLook(impl.StewMender, 0), want, 0, 0)
}

// stewTellsAge is a world in which the counter, when it looks at the book of Age n, asks for n + 1 copies, which the Book lets be.
func stewTellsAge(past int) impl.StewWorld {
	var books []impl.StewBook
	for age := range past + 1 {
		b := stewHas(age+1, 1, 0)
		b.Now = 90 - age
		books = append(books, b)
	}
	books[0].Services[0].Over = 10
	slices.Reverse(books)
	return impl.StewWorld{Past: books[:past], Book: books[past]}
}

func TestStewDoAges(t *testing.T) {
	for past := range impl.StewMaxPast + 1 {
		w := stewTellsAge(past)
		ages := map[int]int{0: 0, -1: 0, -2: 0, -8: 0, math.MinInt: 0, past: past, past + 1: past, past + 2: past, 99: past, math.MaxInt: past, math.MaxInt - past: past}
		for age := range past {
			ages[age], ages[-age] = age, 0
		}
		for age, seen := range ages {
			what := fmt.Sprintf("Age %d, with %d in Past", age, past)
			got, _ := impl.StewDo(w, stewLook(impl.StewCounter, age))
			if len(got.Book.Copies) != seen+1 {
				t.Errorf("%s: %d copies", what, len(got.Book.Copies))
			}
			stewDoesAs(t, what, w, stewLook(impl.StewCounter, age), 0)
		}
	}
}

// A view of long ago, and what has become of the book since: some acts are done, and others are not.
func TestStewDoRefused(t *testing.T) {
	const fewPlace, goneCopy, fewCopy = 4, 9, 7
	ready := func(c *impl.StewCopy) { c.State, c.Berth = impl.StewReady, "b1" }
	for _, c := range []struct {
		what  string
		kind  int
		turn  stewTurn
		codes []int
	}{
		{"as it was", impl.StewMender, func(*impl.StewBook) {}, []int{0, 0}},
		{"the first in another Version", impl.StewMender, stewOfService(stewWeb, func(s *impl.StewService) { s.Version = 41 }), []int{4, 0}},
		{"the second in another Version", impl.StewMender, stewOfService(fewPlace, func(s *impl.StewService) { s.Version = 32 }), []int{0, 4}},
		{"a copy of the second in another Version", impl.StewMender, stewOfCopy(fewCopy, func(c *impl.StewCopy) { c.Version = 41 }), []int{0, 4}},
		{"a copy of the first is gone", impl.StewMender, func(b *impl.StewBook) { b.Copies = slices.Delete(b.Copies, stewFailedCopy, stewFailedCopy+1) }, []int{3, 0}},
		{"a copy of the first is Ending", impl.StewMender, stewOfCopy(stewFailedCopy, func(c *impl.StewCopy) { c.Ending = true }), []int{5, 0}},
		{"the first in another Version, the second gone", impl.StewMender, func(b *impl.StewBook) {
			b.Services[stewWeb].Version = 41
			b.Copies = slices.Delete(b.Copies, fewCopy, fewCopy+1)
		}, []int{4, 3}},
		{"nothing is left", impl.StewMender, func(b *impl.StewBook) { *b = stewAtNow(41) }, []int{3, 3}},
		{"the last Now", impl.StewMender, func(b *impl.StewBook) { b.Now = 1000000 }, []int{7, 7}},
		{"one Now ahead of the last", impl.StewMender, func(b *impl.StewBook) { b.Now = 999999 }, []int{0, 7}},
		{"two Nows ahead of the last", impl.StewMender, func(b *impl.StewBook) { b.Now = 999998 }, []int{0, 0}},
		{"as it was", impl.StewWaver, func(*impl.StewBook) {}, []int{0, 0}},
		{"the one that is to end is ready, and no other", impl.StewWaver, func(b *impl.StewBook) {
			ready(&b.Copies[stewNextCopy])
			b.Copies[stewFirstCopy].State = impl.StewStarting
		}, []int{5, 0}},
		{"one more is live", impl.StewWaver, stewOfCopy(stewLastCopy, func(c *impl.StewCopy) { c.Ending = false }), []int{0, 6}},
		{"the second is Gone", impl.StewWaver, stewOfService(stewWeb, func(s *impl.StewService) { s.Gone = true }), []int{0, 6}},
		{"one copy too many", impl.StewWaver, func(b *impl.StewBook) { stewCrowded(b, 200) }, []int{0, 7}},
		{"just room for one", impl.StewWaver, func(b *impl.StewBook) { stewCrowded(b, 199) }, []int{0, 0}},
		{"as it was", impl.StewCounter, func(*impl.StewBook) {}, []int{0}},
		{"no numbers left", impl.StewCounter, stewOfService(fewPlace, func(s *impl.StewService) { s.Next = 999998 }), []int{7}},
		{"just so many numbers left", impl.StewCounter, stewOfService(fewPlace, func(s *impl.StewService) { s.Next = 999997 }), []int{0}},
		{"none is wanted", impl.StewCounter, stewOfService(fewPlace, func(s *impl.StewService) { s.Want, s.Over = 0, 2 }), []int{6}},
		{"no longer so low", impl.StewScaler, stewOfService(stewApi, func(s *impl.StewService) { s.Least = 3 }), []int{6}},
		{"no load any longer", impl.StewScaler, stewOfService(stewApi, func(s *impl.StewService) { s.Per, s.Least, s.Most, s.Load, s.Cool = 0, 0, 0, 0, 0 }), []int{6}},
		{"one of them is gone", impl.StewSweeper, func(b *impl.StewBook) { b.Copies = slices.Delete(b.Copies, goneCopy, goneCopy+1) }, []int{3}},
		{"wanted again", impl.StewSweeper, stewOfService(5, func(s *impl.StewService) { s.Gone = false }), []int{5}},
		{"in another Version", impl.StewDrainer, stewOfService(6, func(s *impl.StewService) { s.Version = 36 }), []int{4}},
		{"to be drained no longer", impl.StewDrainer, func(b *impl.StewBook) { b.Berths[1].Drain = false }, []int{0}},
	} {
		book := stewBusy()
		book.Now = 41
		c.turn(&book)
		w := impl.StewWorld{Past: []impl.StewBook{stewBusy()}, Book: book}
		what := fmt.Sprintf("%d: %s", c.kind, c.what)
		stewDoesAs(t, what, w, stewLook(c.kind, 1), c.codes...)
		if !slices.Contains(c.codes, 0) {
			stewDoes(t, what, w, stewLook(c.kind, 1), w, c.codes...)
		}
	}
}

// A steward's own act makes its view an old one: what it saw is done once.
func TestStewDoTwice(t *testing.T) {
	for kind, acts := range stewBusyAsks() {
		w, codes := impl.StewDo(stewAlone(stewBusy()), stewLook(kind, 0))
		for _, age := range []int{len(acts), 8, 99} {
			stewDoes(t, fmt.Sprintf("%d by the first book, again", kind), w, stewLook(kind, age), w, slices.Repeat([]int{4}, len(codes))...)
		}
	}
}

func TestStewDoAsksNothing(t *testing.T) {
	past := []impl.StewBook{stewFleet(), stewBusy()}
	for kind := impl.StewCounter; kind <= impl.StewDrainer; kind++ {
		for _, w := range []impl.StewWorld{{}, stewAlone(stewCalmFleet()), {Past: past, Book: stewCalmFleet()}, stewSince(9, 1, 2, 3, 4, 5, 6, 7, 8)} {
			stewDoes(t, fmt.Sprintf("%d", kind), w, stewLook(kind, 0), w)
			stewDoes(t, fmt.Sprintf("%d, below 0", kind), w, stewLook(kind, -3), w)
		}
		// The Book would have it ask, but it does not look there.
		late := impl.StewWorld{Past: []impl.StewBook{stewCalmFleet()}, Book: stewBusy()}
		stewDoes(t, fmt.Sprintf("%d, a calm view", kind), late, stewLook(kind, 1), late)
	}
}

// stewEight is of eight services, for each of which the counter asks for two copies.
func stewEight() impl.StewBook {
	return stewTogether(slices.Repeat([]impl.StewBook{stewEager()[impl.StewCounter].book}, impl.StewMaxServices))
}

// Where Past is full, the first is forgotten, act by act; what was seen is asked for all the same, even if it is forgotten meanwhile.
func TestStewDoForgets(t *testing.T) {
	for past := range impl.StewMaxPast + 1 {
		w := impl.StewWorld{Book: stewEight()}
		w.Book.Now += 20
		for i := range past {
			b := stewEight()
			b.Now += i
			w.Past = append(w.Past, b)
		}
		nows := stewNows(w)
		for age := range past + 1 {
			what := fmt.Sprintf("Age %d, with %d in Past", age, past)
			stewDoesAs(t, what, w, stewLook(impl.StewCounter, age), make([]int, 8)...)
			got, _ := impl.StewDo(w, stewLook(impl.StewCounter, age))
			if want := []int{1019, 1020, 1021, 1022, 1023, 1024, 1025, 1026, 1027}; !slices.Equal(stewNows(got), want) {
				t.Errorf("%s: %v", what, stewNows(got))
			}
		}
		got, _ := impl.StewDo(w, impl.StewMove{Event: stewTickOf()})
		want := append(nows, 1020)
		if past == impl.StewMaxPast {
			want = want[1:]
		}
		if !slices.Equal(stewNows(got), want) {
			t.Errorf("a tick, with %d in Past: %v, not %v", past, stewNows(got), want)
		}
		stewDoesAs(t, fmt.Sprintf("a tick, with %d in Past", past), w, impl.StewMove{Event: stewTickOf()}, 0)
	}
}

// Two acts, one of which is refused, put one book behind Past.
func TestStewDoForgetsByWhatIsDone(t *testing.T) {
	book := stewBusy()
	book.Now, book.Services[stewWeb].Version = 48, 41
	w := impl.StewWorld{Past: stewSince(0, 1, 2, 3, 4, 5, 6, 7).Past, Book: book}
	w.Past = append(w.Past, stewBusy())
	got, codes := impl.StewDo(w, stewLook(impl.StewMender, 1))
	if !slices.Equal(codes, []int{4, 0}) || !slices.Equal(stewNows(got), []int{2, 3, 4, 5, 6, 7, 40, 48, 49}) {
		t.Errorf("%v and %v", codes, stewNows(got))
	}
	stewDoesAs(t, "two acts", w, stewLook(impl.StewMender, 1), 4, 0)
}

var stewNoStewards = []int{0, 7, -1, 8, -6, 100, math.MinInt, math.MaxInt}

func TestStewDoEvents(t *testing.T) {
	past := []impl.StewBook{stewAtNow(1), stewBusy()}
	w := impl.StewWorld{Past: past, Book: stewFleet()}
	for _, steward := range stewNoStewards {
		for what, e := range stewOfEach() {
			next, _ := stewSeaBy(stewFleet(), e)
			want := impl.StewWorld{Past: append(slices.Clone(past), stewFleet()), Book: next}
			for _, age := range []int{0, 1, 2, 3, -1, math.MaxInt} {
				stewDoes(t, fmt.Sprintf("steward %d: %s, Age %d", steward, what, age), w, impl.StewMove{Steward: steward, Age: age, Event: e}, want, 0)
			}
		}
		for code, events := range stewInVain() {
			for _, e := range events {
				stewDoes(t, fmt.Sprintf("steward %d: %+v", steward, e), w, impl.StewMove{Steward: steward, Event: e}, w, code)
			}
		}
		last := impl.StewWorld{Past: past, Book: stewTurned(func(b *impl.StewBook) { b.Now = 1000000 })}
		for what, e := range stewOfEach() {
			stewDoes(t, fmt.Sprintf("steward %d: %s, at the last Now", steward, what), last, impl.StewMove{Steward: steward, Event: e}, last, 7)
		}
		stewDoes(t, "nothing but a tick", impl.StewWorld{}, impl.StewMove{Steward: steward, Event: stewTickOf()}, stewSince(1, 0), 0)
		stewDoes(t, "nothing at all", impl.StewWorld{}, impl.StewMove{Steward: steward}, impl.StewWorld{}, 4)
	}
}

// A steward does not look at what happens.
func TestStewDoNoEvents(t *testing.T) {
	for kind := impl.StewCounter; kind <= impl.StewDrainer; kind++ {
		want, codes := stewMovedBy(stewAlone(stewBusy()), stewLook(kind, 0))
		for what, e := range stewOfEach() {
			stewDoes(t, fmt.Sprintf("%d, and %s", kind, what), stewAlone(stewBusy()), impl.StewMove{Steward: kind, Event: e}, want, codes...)
		}
		stewDoes(t, fmt.Sprintf("%d, and another Kind", kind), stewAlone(stewBusy()), impl.StewMove{Steward: kind, Event: impl.StewEvent{Kind: 77}}, want, codes...)
	}
}

// stewNotOk is worlds that are not ok.
func stewNotOk() map[string]impl.StewWorld {
	worlds := map[string]impl.StewWorld{
		"nine in Past":          {Past: slices.Repeat([]impl.StewBook{stewBusy()}, 9), Book: stewBusy()},
		"Past ahead":            {Past: []impl.StewBook{stewAtNow(41)}, Book: stewBusy()},
		"Past goes back":        {Past: []impl.StewBook{stewAtNow(3), stewAtNow(2)}, Book: stewBusy()},
		"one not valid in Past": {Past: []impl.StewBook{stewAtNow(-1)}, Book: stewBusy()},
	}
	for what, turn := range stewSpoilt() {
		b := stewBusy()
		turn(&b)
		worlds[what] = stewAlone(b)
		worlds[what+", in Past"] = impl.StewWorld{Past: []impl.StewBook{b}, Book: stewTurnedOf(stewBusy(), func(b *impl.StewBook) { b.Now = 1000000 })}
	}
	return worlds
}

func TestStewDoNotOk(t *testing.T) {
	for what, w := range stewNotOk() {
		stewIsOkAs(t, what, w, false)
		for kind := -1; kind <= 8; kind++ {
			for _, age := range []int{0, 1, 9} {
				stewDoes(t, fmt.Sprintf("%s, steward %d", what, kind), w, stewLook(kind, age), impl.StewWorld{})
			}
		}
		for event, e := range stewOfEach() {
			stewDoes(t, what+", "+event, w, impl.StewMove{Event: e}, impl.StewWorld{})
		}
	}
}
