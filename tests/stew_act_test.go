package tests

import (
	"fmt"
	"math"
	"slices"
	"testing"

	"loop.example/wharfdesk/impl"
)

// stewYard is valid. Of web four copies are live, which is Want and Over, and three of these are ready, one more than there must be; api follows its load, gone and left are Gone, and left has no copies.
func stewYard() impl.StewBook {
	return impl.StewBook{
		Now: 50,
		Services: []impl.StewService{
			{Name: "api", Version: 31, Image: 7, Want: 2, Down: 1, Over: 1, Next: 5, Per: 50, Least: 1, Most: 4, Load: 90, Cool: 2},
			{Name: "gone", Version: 12, Gone: true, Image: 1, Want: 3, Over: 2, Next: 6},
			{Name: "left", Version: 40, Gone: true, Image: 3, Want: 2, Down: 2, Over: 2, Next: 9},
			{Name: "web", Version: 9, Image: 2, Want: 3, Down: 1, Over: 1, Next: 20},
			{Name: "zoo", Version: 44, Image: 3, Want: 1, Over: 1, Next: 3},
		},
		Copies: []impl.StewCopy{
			{Service: "api", Number: 1, Version: 21, Image: 7, State: impl.StewReady, Berth: "b1"},
			{Service: "api", Number: 2, Version: 22, Image: 6, State: impl.StewReady, Berth: "b2"},
			{Service: "api", Number: 4, Version: 20, Image: 7, State: impl.StewWaiting, Ending: true},
			{Service: "gone", Number: 2, Version: 23, Image: 1, State: impl.StewReady, Berth: "b3"},
			{Service: "gone", Number: 3, Version: 24, Image: 1, State: impl.StewWaiting, Ending: true},
			{Service: "gone", Number: 5, Version: 25, Image: 1, State: impl.StewFailed, Berth: "b1"},
			{Service: "web", Number: 2, Version: 11, Image: 2, State: impl.StewReady, Berth: "b1"},
			{Service: "web", Number: 4, Version: 12, Image: 2, State: impl.StewReady, Berth: "b2"},
			{Service: "web", Number: 9, Version: 13, Image: 1, State: impl.StewFailed, Berth: "b1"},
			{Service: "web", Number: 10, Version: 14, Image: 2, State: impl.StewReady, Berth: "b3"},
			{Service: "web", Number: 19, Version: 15, Image: 2, State: impl.StewWaiting, Ending: true},
			{Service: "zoo", Number: 1, Version: 41, Image: 3, State: impl.StewReady, Berth: "b1"},
			{Service: "zoo", Number: 2, Version: 42, Image: 3, State: impl.StewStarting, Berth: "b2"},
		},
		Berths: []impl.StewBerth{{Name: "b1"}, {Name: "b2", Drain: true}, {Name: "b3"}},
	}
}

// Places of services in stewYard.
const (
	stewYardApi = iota
	stewYardGone
	stewYardLeft
	stewYardWeb
	stewYardZoo
)

// stewEnds are those Numbers; how they were seen is put in by stewSeenIn.
func stewEnds(numbers ...int) []impl.StewEnd {
	var list []impl.StewEnd
	for _, number := range numbers {
		list = append(list, impl.StewEnd{Number: number})
	}
	return list
}

// stewActs applies an act, and says that it has this code and leads to this book, that the arguments stay as they are, and that the answer is memory of its own.
func stewActs(t *testing.T, what string, b impl.StewBook, a impl.StewAct, want impl.StewBook, code int) {
	t.Helper()
	b, a = spread(b), spread(a)
	bookAhead, actAhead := whole(b), whole(a)
	got, gotCode := impl.StewApply(b, a)
	if gotCode != code || !same(got, want) {
		t.Errorf("%s: %d and %+v, not %d and %+v", what, gotCode, got, code, want)
	}
	if !impl.StewValid(got) {
		t.Errorf("%s: the book behind it is not valid", what)
	}
	if !same(whole(b), bookAhead) || !same(whole(a), actAhead) {
		t.Errorf("%s: an argument is changed", what)
	}
	newMemory(t, what, got, b, a)
}

// stewCodes is stewActs where the code is of interest: the book is nothing with 1, as it was with others, and with 0 as stewAppliedBy has it.
func stewCodes(t *testing.T, what string, b impl.StewBook, a impl.StewAct, code int) {
	t.Helper()
	want, _ := stewAppliedBy(b, a)
	if code != 0 {
		want = b
	}
	if code == 1 {
		want = impl.StewBook{}
	}
	stewActs(t, what, b, a, want, code)
}

// stewActCase is an act on a service of stewYard, turned ahead of it, as it is seen there.
type stewActCase struct {
	what    string
	service string
	act     impl.StewAct
	code    int
	turn    stewTurn
}

func stewCheckActs(t *testing.T, cases []stewActCase) {
	t.Helper()
	for _, c := range cases {
		b := stewYard()
		if c.turn != nil {
			c.turn(&b)
		}
		if !impl.StewValid(b) {
			t.Errorf("%s: the book was not valid", c.what)
		}
		stewCodes(t, c.what, b, stewSeenIn(b, c.service, c.act), c.code)
	}
}

// What is done, field by field: the versions of all that is touched, and of nothing else.
func TestStewApplyDone(t *testing.T) {
	waiting := func(service string, number, image int) impl.StewCopy {
		return impl.StewCopy{Service: service, Number: number, Version: 51, Image: image, State: impl.StewWaiting}
	}
	for _, c := range []struct {
		what   string
		act    impl.StewAct
		behind func(b *impl.StewBook)
	}{
		{"nothing at all", impl.StewAct{Service: "web", Seen: 9}, func(b *impl.StewBook) {
			b.Services[stewYardWeb].Version = 51
		}},
		{"nothing at all, Gone", impl.StewAct{Service: "gone", Seen: 12}, func(b *impl.StewBook) {
			b.Services[stewYardGone].Version = 51
		}},
		{"an empty list of ends", impl.StewAct{Service: "zoo", Seen: 44, Ends: []impl.StewEnd{}}, func(b *impl.StewBook) {
			b.Services[stewYardZoo].Version = 51
		}},
		{"an end", impl.StewAct{Service: "web", Seen: 9, Ends: []impl.StewEnd{{Number: 4, Seen: 12}}}, func(b *impl.StewBook) {
			b.Services[stewYardWeb].Version = 51
			b.Copies[7].Ending, b.Copies[7].Version = true, 51
		}},
		{"ends", impl.StewAct{Service: "web", Seen: 9, Ends: []impl.StewEnd{{Number: 9, Seen: 13}, {Number: 10, Seen: 14}}}, func(b *impl.StewBook) {
			b.Services[stewYardWeb].Version = 51
			b.Copies[8].Ending, b.Copies[8].Version = true, 51
			b.Copies[9].Ending, b.Copies[9].Version = true, 51
		}},
		{"ends of one that is Gone", impl.StewAct{Service: "gone", Seen: 12, Ends: []impl.StewEnd{{Number: 2, Seen: 23}, {Number: 5, Seen: 25}}}, func(b *impl.StewBook) {
			b.Services[stewYardGone].Version = 51
			b.Copies[3].Ending, b.Copies[3].Version = true, 51
			b.Copies[5].Ending, b.Copies[5].Version = true, 51
		}},
		{"a scale", impl.StewAct{Service: "api", Seen: 31, Scale: true, Want: 4, Cool: 1}, func(b *impl.StewBook) {
			b.Services[stewYardApi].Version, b.Services[stewYardApi].Want, b.Services[stewYardApi].Cool = 51, 4, 1
		}},
		{"a scale to what there is", impl.StewAct{Service: "api", Seen: 31, Scale: true, Want: 2, Cool: 2}, func(b *impl.StewBook) {
			b.Services[stewYardApi].Version = 51
		}},
		{"a copy of the first service", impl.StewAct{Service: "api", Seen: 31, Create: 1}, func(b *impl.StewBook) {
			b.Services[stewYardApi].Version, b.Services[stewYardApi].Next = 51, 6
			b.Copies = slices.Insert(b.Copies, 3, waiting("api", 5, 7))
		}},
		{"ends and copies of one between others", impl.StewAct{Service: "web", Seen: 9, Ends: []impl.StewEnd{{Number: 2, Seen: 11}, {Number: 9, Seen: 13}}, Create: 2}, func(b *impl.StewBook) {
			b.Services[stewYardWeb].Version, b.Services[stewYardWeb].Next = 51, 22
			b.Copies[6].Ending, b.Copies[6].Version = true, 51
			b.Copies[8].Ending, b.Copies[8].Version = true, 51
			b.Copies = slices.Insert(b.Copies, 11, waiting("web", 20, 2), waiting("web", 21, 2))
		}},
		{"a copy of the last, behind an end", impl.StewAct{Service: "zoo", Seen: 44, Ends: []impl.StewEnd{{Number: 2, Seen: 42}}, Create: 1}, func(b *impl.StewBook) {
			b.Services[stewYardZoo].Version, b.Services[stewYardZoo].Next = 51, 4
			b.Copies[12].Ending, b.Copies[12].Version = true, 51
			b.Copies = append(b.Copies, waiting("zoo", 3, 3))
		}},
		{"all that may be together", impl.StewAct{Service: "api", Seen: 31, Scale: true, Want: 3, Ends: []impl.StewEnd{{Number: 2, Seen: 22}}, Create: 3}, func(b *impl.StewBook) {
			b.Services[stewYardApi].Version, b.Services[stewYardApi].Want, b.Services[stewYardApi].Cool, b.Services[stewYardApi].Next = 51, 3, 0, 8
			b.Copies[1].Ending, b.Copies[1].Version = true, 51
			b.Copies = slices.Insert(b.Copies, 3, waiting("api", 5, 7), waiting("api", 6, 7), waiting("api", 7, 7))
		}},
		{"a drop", impl.StewAct{Service: "left", Seen: 40, Drop: true}, func(b *impl.StewBook) {
			b.Services = slices.Delete(b.Services, stewYardLeft, stewYardLeft+1)
		}},
	} {
		want := stewYard()
		want.Now = 51
		c.behind(&want)
		stewActs(t, c.what, stewYard(), c.act, want, 0)
	}
}

// A service without copies gets its first ones where they belong, from its Next on.
func TestStewApplyFirstCopies(t *testing.T) {
	for at, service := range []string{"api", "gone", "left", "web", "zoo"} {
		b := stewYard()
		b.Copies = slices.DeleteFunc(b.Copies, func(c impl.StewCopy) bool { return c.Service == service })
		b.Services[at].Gone = false
		want := spread(b)
		s := &want.Services[at]
		want.Now, s.Version, s.Next = 51, 51, s.Next+2
		want.Copies = append(want.Copies,
			impl.StewCopy{Service: service, Number: s.Next - 2, Version: 51, Image: s.Image, State: impl.StewWaiting},
			impl.StewCopy{Service: service, Number: s.Next - 1, Version: 51, Image: s.Image, State: impl.StewWaiting})
		slices.SortStableFunc(want.Copies, func(x, y impl.StewCopy) int {
			return slices.Compare([]byte(x.Service), []byte(y.Service))
		})
		stewActs(t, service, b, stewSeenIn(b, service, impl.StewAct{Create: 2}), want, 0)
	}
	lone := impl.StewBook{Now: 3, Services: []impl.StewService{{Name: "left", Version: 2, Gone: true, Image: 1, Over: 1, Next: 1}}}
	stewActs(t, "a drop of the only service", lone, impl.StewAct{Service: "left", Seen: 2, Drop: true}, impl.StewBook{Now: 4}, 0)
}

func TestStewApplyNotValid(t *testing.T) {
	for what, turn := range stewSpoilt() {
		b := stewTurned(turn)
		for _, a := range []impl.StewAct{
			{},
			{Service: "web", Seen: 9},
			{Service: "web", Seen: 9, Ends: []impl.StewEnd{{Number: 9, Seen: 30}}},
			{Service: "web", Seen: 9, Create: 1},
			{Service: "api", Seen: 31, Scale: true, Want: 3},
			{Service: "old", Seen: 12, Drop: true},
			{Service: "web", Seen: 9, Create: 21},
			{Service: "none"},
			{Service: "web", Seen: 8},
		} {
			stewCodes(t, what, b, a, 1)
		}
	}
}

// Code 2, by numbers that stand from their least to their most; with others the act is done.
func TestStewApplyNumbers(t *testing.T) {
	wide := stewOfService(stewYardApi, func(s *impl.StewService) { s.Want, s.Least, s.Most, s.Over = 10, 0, 10, 10 })
	for _, f := range []struct {
		what        string
		least, most int
		act         impl.StewAct
		field       func(a *impl.StewAct) *int
	}{
		{"Create", 0, 20, impl.StewAct{}, func(a *impl.StewAct) *int { return &a.Create }},
		{"Create with Scale", 0, 20, impl.StewAct{Scale: true, Want: 10}, func(a *impl.StewAct) *int { return &a.Create }},
		{"Create with Drop", 0, 0, impl.StewAct{Drop: true}, func(a *impl.StewAct) *int { return &a.Create }},
		{"Want", 0, 0, impl.StewAct{}, func(a *impl.StewAct) *int { return &a.Want }},
		{"Want with Create", 0, 0, impl.StewAct{Create: 1}, func(a *impl.StewAct) *int { return &a.Want }},
		{"Want with Scale", 0, 10, impl.StewAct{Scale: true}, func(a *impl.StewAct) *int { return &a.Want }},
		{"Want with Drop", 0, 0, impl.StewAct{Drop: true}, func(a *impl.StewAct) *int { return &a.Want }},
		{"Cool", 0, 0, impl.StewAct{}, func(a *impl.StewAct) *int { return &a.Cool }},
		{"Cool with Create", 0, 0, impl.StewAct{Create: 1}, func(a *impl.StewAct) *int { return &a.Cool }},
		{"Cool with Scale", 0, 3, impl.StewAct{Scale: true}, func(a *impl.StewAct) *int { return &a.Cool }},
		{"Cool with Drop", 0, 0, impl.StewAct{Drop: true}, func(a *impl.StewAct) *int { return &a.Cool }},
	} {
		for _, n := range []int{math.MinInt, f.least - 2, f.least - 1, f.least, f.most, f.most + 1, f.most + 2, 1000001, math.MaxInt} {
			b := stewYard()
			wide(&b)
			b.Copies = b.Copies[3:]
			b.Services[stewYardApi].Gone = f.act.Drop
			a := stewSeenIn(b, "api", f.act)
			*f.field(&a) = n
			code := 2
			if f.least <= n && n <= f.most {
				code = 0
			}
			stewCodes(t, fmt.Sprintf("%s of %d", f.what, n), b, a, code)
		}
	}
}

// Code 2, by parts that do not go together, and by ends that are not in order.
func TestStewApplyNotOk(t *testing.T) {
	stewCheckActs(t, []stewActCase{
		{what: "Drop with Create", service: "left", act: impl.StewAct{Drop: true, Create: 1}, code: 2},
		{what: "Drop with Scale", service: "left", act: impl.StewAct{Drop: true, Scale: true}, code: 2},
		{what: "Drop with Scale and a Want", service: "left", act: impl.StewAct{Drop: true, Scale: true, Want: 1}, code: 2},
		{what: "Drop with an end", service: "gone", act: impl.StewAct{Drop: true, Ends: stewEnds(5)}, code: 2},
		{what: "Drop with an end that is not there", service: "left", act: impl.StewAct{Drop: true, Ends: stewEnds(5)}, code: 2},
		{what: "Drop with all", service: "left", act: impl.StewAct{Drop: true, Create: 1, Scale: true, Want: 1, Ends: stewEnds(1)}, code: 2},
		{what: "Drop alone", service: "left", act: impl.StewAct{Drop: true}, code: 0},
		{what: "Drop and empty ends", service: "left", act: impl.StewAct{Drop: true, Ends: []impl.StewEnd{}}, code: 0},
		{what: "Want and Cool without Scale", service: "api", act: impl.StewAct{Want: 3, Cool: 1}, code: 2},
		{what: "what there is as Want and Cool, without Scale", service: "api", act: impl.StewAct{Want: 2, Cool: 2}, code: 2},

		{what: "ends ascending", service: "gone", act: impl.StewAct{Ends: stewEnds(2, 5)}, code: 0},
		{what: "ends turned around", service: "gone", act: impl.StewAct{Ends: stewEnds(5, 2)}, code: 2},
		{what: "two ends alike", service: "gone", act: impl.StewAct{Ends: stewEnds(2, 2)}, code: 2},
		{what: "two ends alike behind another", service: "gone", act: impl.StewAct{Ends: stewEnds(2, 5, 5)}, code: 2},
		{what: "the last two ends turned around", service: "web", act: impl.StewAct{Ends: stewEnds(4, 10, 9)}, code: 2},
		{what: "the first two ends turned around", service: "web", act: impl.StewAct{Ends: stewEnds(9, 4, 10)}, code: 2},
		{what: "ends by their digits", service: "web", act: impl.StewAct{Ends: stewEnds(10, 9)}, code: 2},
		{what: "ends that are not there turned around", service: "web", act: impl.StewAct{Ends: stewEnds(1, -1)}, code: 2},
		{what: "ends as far as they go", service: "web", act: impl.StewAct{Ends: stewEnds(math.MaxInt, math.MinInt)}, code: 2},
	})
	b := stewYard()
	twice := impl.StewAct{Service: "gone", Seen: 12, Ends: []impl.StewEnd{{Number: 2, Seen: 22}, {Number: 2, Seen: 23}}}
	stewCodes(t, "two ends of one Number, seen in different versions", b, twice, 2)
	bySeen := impl.StewAct{Service: "web", Seen: 9, Ends: []impl.StewEnd{{Number: 9, Seen: 13}, {Number: 4, Seen: 12}}}
	stewCodes(t, "ends turned around, their Seen too", b, bySeen, 2)
}

// stewFull is of one service that is Gone, with so many live copies, and one more Next than they need.
func stewFull(copies int) impl.StewBook {
	b := stewCrowd(1, copies, 0)
	b.Services[0].Gone = true
	b.Services[0].Next++
	return b
}

func TestStewApplyManyEnds(t *testing.T) {
	var numbers []int
	for n := 1; n <= 202; n++ {
		numbers = append(numbers, n)
	}
	act := func(b impl.StewBook, numbers []int) impl.StewAct {
		return stewSeenIn(b, "s00", impl.StewAct{Ends: stewEnds(numbers...)})
	}
	full := stewFull(200)
	stewCodes(t, "all copies there are", full, act(full, numbers[:200]), 0)
	stewCodes(t, "all but one", full, act(full, numbers[1:200]), 0)
	stewCodes(t, "as many, the last of which is not there", full, act(full, numbers[1:201]), 3)
	stewCodes(t, "one more", full, act(full, numbers[:201]), 2)
	stewCodes(t, "two more", full, act(full, numbers), 2)
	few := stewFull(3)
	stewCodes(t, "as many as there may be, few being there", few, act(few, numbers[:200]), 3)
	stewCodes(t, "one more, few being there", few, act(few, numbers[:201]), 2)

	next, code := impl.StewApply(full, act(full, numbers[:200]))
	if code != 0 || !all(next.Copies, func(c impl.StewCopy) bool { return c.Ending && c.Version == 4 }) {
		t.Errorf("not all are Ending: %d and %+v", code, next)
	}
}

func TestStewApplyMissed(t *testing.T) {
	for _, service := range []string{"", "w", "we", "webs", "WEB", "b1", "web ", "\xff", letters(21), "aa", "zzz"} {
		b := stewYard()
		for _, a := range []impl.StewAct{
			{},
			{Create: 1},
			{Scale: true, Want: 1},
			{Drop: true},
			{Seen: 9},
			{Seen: 9, Ends: []impl.StewEnd{{Number: 9, Seen: 13}}},
		} {
			a.Service = service
			stewCodes(t, fmt.Sprintf("%q", service), b, a, 3)
		}
	}
	stewCodes(t, "nothing in nothing", impl.StewBook{}, impl.StewAct{}, 3)
	for _, number := range []int{math.MinInt, -1, 0, 1, 3, 5, 8, 11, 18, 20, 21, 1000001, math.MaxInt} {
		ends := []int{9, number}
		slices.Sort(ends)
		for _, list := range [][]int{{number}, ends} {
			stewCheckActs(t, []stewActCase{{what: fmt.Sprintf("no copy %d", number), service: "web", act: impl.StewAct{Ends: stewEnds(list...)}, code: 3}})
		}
	}
	stewCheckActs(t, []stewActCase{
		{what: "another's Number", service: "zoo", act: impl.StewAct{Ends: stewEnds(4)}, code: 3},
		{what: "another's Number, of a service without copies", service: "left", act: impl.StewAct{Ends: stewEnds(2)}, code: 3},
		{what: "a Number that was, and is no longer", service: "gone", act: impl.StewAct{Ends: stewEnds(2, 4, 5)}, code: 3},
	})
}

func TestStewApplySeenOther(t *testing.T) {
	b := stewYard()
	for _, by := range []int{-9, -1, 1, 42, math.MinInt, math.MaxInt - 50} {
		for _, a := range []impl.StewAct{
			{Service: "web"},
			{Service: "web", Create: 1, Ends: stewEnds(2)},
			{Service: "web", Ends: stewEnds(9)},
			{Service: "api", Scale: true, Want: 3},
			{Service: "left", Drop: true},
		} {
			a = stewSeenIn(b, a.Service, a)
			stewCodes(t, "as it was seen", b, a, 0)
			a.Seen += by
			stewCodes(t, fmt.Sprintf("a service seen %d off", by), b, a, 4)
		}
		for at := range 3 {
			a := stewSeenIn(b, "web", impl.StewAct{Ends: stewEnds(2, 9, 19)})
			a.Ends[at].Seen += by
			stewCodes(t, fmt.Sprintf("end %d seen %d off", at, by), b, a, 4)
		}
		a := stewSeenIn(b, "gone", impl.StewAct{Ends: stewEnds(2, 5)})
		a.Seen, a.Ends[0].Seen, a.Ends[1].Seen = a.Seen+by, a.Ends[0].Seen+by, a.Ends[1].Seen+by
		stewCodes(t, fmt.Sprintf("all seen %d off", by), b, a, 4)
	}
	crossed := impl.StewAct{Service: "gone", Seen: 12, Ends: []impl.StewEnd{{Number: 2, Seen: 25}, {Number: 5, Seen: 23}}}
	stewCodes(t, "ends seen as the other", b, crossed, 4)
	ofService := impl.StewAct{Service: "web", Seen: 9, Ends: []impl.StewEnd{{Number: 9, Seen: 9}}}
	stewCodes(t, "an end seen as its service", b, ofService, 4)
}

// Ends are done one after the other: of web one that is ready may end, and then no other.
func TestStewApplyEnds(t *testing.T) {
	web := func(change func(*impl.StewService)) stewTurn { return stewOfService(stewYardWeb, change) }
	state := func(at, state int) stewTurn {
		return func(b *impl.StewBook) {
			b.Copies[at].State = state
			if state == impl.StewWaiting {
				b.Copies[at].Berth = ""
			}
		}
	}
	down := func(n int) stewTurn { return web(func(s *impl.StewService) { s.Down = n }) }
	stewCheckActs(t, []stewActCase{
		{what: "the first ready one", service: "web", act: impl.StewAct{Ends: stewEnds(2)}},
		{what: "the last ready one", service: "web", act: impl.StewAct{Ends: stewEnds(10)}},
		{what: "two ready ones", service: "web", act: impl.StewAct{Ends: stewEnds(2, 4)}, code: 5},
		{what: "two ready ones, not side by side", service: "web", act: impl.StewAct{Ends: stewEnds(4, 10)}, code: 5},
		{what: "three ready ones", service: "web", act: impl.StewAct{Ends: stewEnds(2, 4, 10)}, code: 5},
		{what: "a ready one, then a failed one", service: "web", act: impl.StewAct{Ends: stewEnds(4, 9)}},
		{what: "a failed one, then a ready one", service: "web", act: impl.StewAct{Ends: stewEnds(9, 10)}},
		{what: "a ready one, a failed one, a ready one", service: "web", act: impl.StewAct{Ends: stewEnds(4, 9, 10)}, code: 5},
		{what: "two ready ones, two being down at most", service: "web", act: impl.StewAct{Ends: stewEnds(2, 10)}, turn: down(2)},
		{what: "three ready ones, two being down at most", service: "web", act: impl.StewAct{Ends: stewEnds(2, 4, 10)}, turn: down(2), code: 5},
		{what: "three ready ones, three being down at most", service: "web", act: impl.StewAct{Ends: stewEnds(2, 4, 10)}, turn: down(3)},
		{what: "three ready ones, more being down than is wanted", service: "web", act: impl.StewAct{Ends: stewEnds(2, 4, 10)}, turn: down(10)},
		{what: "a ready one, none being down", service: "web", act: impl.StewAct{Ends: stewEnds(2)}, turn: down(0), code: 5},
		{what: "a ready one, none being down, one fewer wanted", service: "web", act: impl.StewAct{Ends: stewEnds(2)}, turn: web(func(s *impl.StewService) { s.Want, s.Down = 2, 0 })},
		{what: "all that are live, Gone", service: "web", act: impl.StewAct{Ends: stewEnds(2, 4, 9, 10)}, turn: web(func(s *impl.StewService) { s.Gone = true })},
		{what: "all that are live, none wanted", service: "web", act: impl.StewAct{Ends: stewEnds(2, 4, 9, 10)}, turn: web(func(s *impl.StewService) { s.Want = 0 })},
		{what: "one that is Ending", service: "web", act: impl.StewAct{Ends: stewEnds(19)}, code: 5},
		{what: "one that may end, then one that is Ending", service: "web", act: impl.StewAct{Ends: stewEnds(9, 19)}, code: 5},
		{what: "one that is Ending, Gone", service: "gone", act: impl.StewAct{Ends: stewEnds(3)}, code: 5},
		{what: "one that is Ending between others, Gone", service: "gone", act: impl.StewAct{Ends: stewEnds(2, 3, 5)}, code: 5},
		{what: "one that waits", service: "web", act: impl.StewAct{Ends: stewEnds(9)}, turn: state(8, impl.StewWaiting)},
		{what: "one that starts", service: "web", act: impl.StewAct{Ends: stewEnds(9)}, turn: state(8, impl.StewStarting)},
		{what: "one that failed, fewer being ready than must be", service: "web", act: impl.StewAct{Ends: stewEnds(9)}, turn: web(func(s *impl.StewService) { s.Want = 10 })},
		{what: "the only ready one, another starting", service: "zoo", act: impl.StewAct{Ends: stewEnds(1)}, code: 5},
		{what: "the one that starts", service: "zoo", act: impl.StewAct{Ends: stewEnds(2)}},
		{what: "a new one does not make up for one that ends", service: "zoo", act: impl.StewAct{Ends: stewEnds(1), Create: 1}, code: 5},
	})
}

// Ends go by the Want that was, Creates by the one that is to be.
func TestStewApplyScaleAndEnds(t *testing.T) {
	api := func(want, down, over int) stewTurn {
		return stewOfService(stewYardApi, func(s *impl.StewService) { s.Want, s.Down, s.Over = want, down, over })
	}
	scale := func(want int, ends ...int) impl.StewAct {
		return impl.StewAct{Scale: true, Want: want, Ends: stewEnds(ends...)}
	}
	creating := func(n int, a impl.StewAct) impl.StewAct {
		a.Create = n
		return a
	}
	stewCheckActs(t, []stewActCase{
		{what: "up, an end that the old Want lets", service: "api", act: scale(4, 1)},
		{what: "down, an end that the old Want lets", service: "api", act: scale(1, 1)},
		{what: "down, an end that the new Want would let", service: "api", act: scale(1, 1), turn: api(2, 0, 1), code: 5},
		{what: "down, ends of which the new Want would let both", service: "api", act: scale(1, 1, 2), code: 5},
		{what: "up, ends that the old Want lets", service: "api", act: scale(4, 1, 2), turn: api(1, 1, 1)},

		{what: "up, and as many as then may be", service: "api", act: creating(3, scale(4))},
		{what: "up, and one more", service: "api", act: creating(4, scale(4)), code: 6},
		{what: "up, and as many as then may be behind an end", service: "api", act: creating(4, scale(4, 2))},
		{what: "up, and one more behind an end", service: "api", act: creating(5, scale(4, 2)), code: 6},
		{what: "down, and one that the old Want would let", service: "api", act: creating(1, scale(1)), code: 6},
		{what: "down, and one behind an end", service: "api", act: creating(1, scale(1, 1))},
		{what: "down, and two behind an end", service: "api", act: creating(2, scale(1, 1)), code: 6},
		{what: "down, more being live than may be", service: "api", act: scale(1), turn: api(2, 1, 0)},
	})
}

func TestStewApplyCreate(t *testing.T) {
	create := func(n int, ends ...int) impl.StewAct { return impl.StewAct{Create: n, Ends: stewEnds(ends...)} }
	want := func(want, over int) stewTurn {
		return stewOfService(stewYardWeb, func(s *impl.StewService) { s.Want, s.Over = want, over })
	}
	stewCheckActs(t, []stewActCase{
		{what: "none, all that may be being live", service: "web", act: create(0)},
		{what: "one, all that may be being live", service: "web", act: create(1), code: 6},
		{what: "as many as may be, one more wanted", service: "web", act: create(1), turn: want(4, 1)},
		{what: "one more, one more wanted", service: "web", act: create(2), turn: want(4, 1), code: 6},
		{what: "as many as may be, all wanted, over", service: "web", act: create(16), turn: want(10, 10)},
		{what: "one more, all wanted, over", service: "web", act: create(17), turn: want(10, 10), code: 6},
		{what: "as many as may be, none over", service: "web", act: create(6), turn: want(10, 0)},
		{what: "one more, none over", service: "web", act: create(7), turn: want(10, 0), code: 6},
		{what: "as many as may be, none wanted", service: "web", act: create(6), turn: want(0, 10)},
		{what: "one more, none wanted", service: "web", act: create(7), turn: want(0, 10), code: 6},
		{what: "as many as end", service: "web", act: create(2, 2, 9)},
		{what: "one more than end", service: "web", act: create(3, 2, 9), code: 6},
		{what: "fewer than end", service: "web", act: create(1, 2, 9)},
		{what: "one beside an end, more being live than may be", service: "web", act: create(1, 9), turn: want(2, 1), code: 6},
		{what: "an end alone, more being live than may be", service: "web", act: create(0, 9), turn: want(2, 1)},
		{what: "none, more being live than may be", service: "web", act: create(0), turn: want(0, 0)},
		{what: "beside one that is Ending already", service: "api", act: create(1)},
		{what: "two beside one that is Ending already", service: "api", act: create(2), code: 6},

		{what: "of one that is Gone", service: "gone", act: create(1), code: 6},
		{what: "of one that is Gone, with ends", service: "gone", act: create(1, 2, 5), code: 6},
		{what: "of one that is Gone, without copies", service: "left", act: create(1), code: 6},
		{what: "none of one that is Gone", service: "left", act: create(0)},
	})
}

func TestStewApplyScale(t *testing.T) {
	scale := func(want int) impl.StewAct { return impl.StewAct{Scale: true, Want: want} }
	bounds := func(least, most int) stewTurn {
		return stewOfService(stewYardApi, func(s *impl.StewService) { s.Least, s.Most = least, most })
	}
	stewCheckActs(t, []stewActCase{
		{what: "below Least", service: "api", act: scale(0), code: 6},
		{what: "Least", service: "api", act: scale(1)},
		{what: "Most", service: "api", act: scale(4)},
		{what: "above Most", service: "api", act: scale(5), code: 6},
		{what: "the highest", service: "api", act: scale(10), code: 6},
		{what: "the highest, being Most", service: "api", act: scale(10), turn: bounds(10, 10)},
		{what: "0, being Most", service: "api", act: scale(0), turn: bounds(0, 0)},
		{what: "1, Most being 0", service: "api", act: scale(1), turn: bounds(0, 0), code: 6},
		{what: "the Want that is, below Least", service: "api", act: scale(2), turn: bounds(3, 4), code: 6},
		{what: "the Want that is, above Most", service: "api", act: scale(2), turn: bounds(0, 1), code: 6},
		{what: "with a Per of 0", service: "web", act: scale(3), code: 6},
		{what: "0 with a Per of 0", service: "web", act: scale(0), code: 6},
		{what: "0 with a Per of 0, 0 being wanted", service: "web", act: scale(0), turn: stewOfService(stewYardWeb, func(s *impl.StewService) { s.Want = 0 }), code: 6},
		{what: "of one that is Gone", service: "api", act: scale(3), turn: stewOfService(stewYardApi, func(s *impl.StewService) { s.Gone = true })},
		{what: "of one that is Gone, with a Per of 0", service: "gone", act: scale(0), code: 6},
		{what: "the highest Cool", service: "api", act: impl.StewAct{Scale: true, Want: 2, Cool: 3}},
		{what: "a Cool of 0", service: "api", act: impl.StewAct{Scale: true, Want: 2}},
	})
}

func TestStewApplyDrop(t *testing.T) {
	drop := impl.StewAct{Drop: true}
	without := func(b *impl.StewBook, service string) {
		b.Copies = slices.DeleteFunc(b.Copies, func(c impl.StewCopy) bool { return c.Service == service })
	}
	stewCheckActs(t, []stewActCase{
		{what: "Gone, without copies", service: "left", act: drop},
		{what: "Gone, with copies", service: "gone", act: drop, code: 6},
		{what: "Gone, with one that is live", service: "gone", act: drop, turn: func(b *impl.StewBook) { b.Copies = slices.Delete(b.Copies, 4, 6) }, code: 6},
		{what: "Gone, with one that is Ending", service: "gone", act: drop, turn: func(b *impl.StewBook) { b.Copies = slices.Delete(slices.Delete(b.Copies, 5, 6), 3, 4) }, code: 6},
		{what: "not Gone, with copies", service: "web", act: drop, code: 6},
		{what: "not Gone, without copies", service: "web", act: drop, turn: func(b *impl.StewBook) { without(b, "web") }, code: 6},
		{what: "not Gone, none wanted, without copies", service: "web", act: drop, turn: func(b *impl.StewBook) { without(b, "web"); b.Services[stewYardWeb].Want = 0 }, code: 6},
		{what: "the first", service: "api", act: drop, turn: func(b *impl.StewBook) { without(b, "api"); b.Services[stewYardApi].Gone = true }},
		{what: "the last", service: "zoo", act: drop, turn: func(b *impl.StewBook) { without(b, "zoo"); b.Services[stewYardZoo].Gone = true }},
	})
}

func TestStewApplyRoom(t *testing.T) {
	now := func(n int) stewTurn { return func(b *impl.StewBook) { b.Now = n } }
	next := func(n int) stewTurn {
		return func(b *impl.StewBook) { b.Services[stewYardWeb].Next, b.Services[stewYardWeb].Over = n, 10 }
	}
	copies := func(n int) stewTurn {
		return func(b *impl.StewBook) { stewCrowded(b, n); b.Services[stewYardWeb].Over = 10 }
	}
	create := func(n int, ends ...int) impl.StewAct { return impl.StewAct{Create: n, Ends: stewEnds(ends...)} }
	var cases []stewActCase
	for what, c := range map[string]stewActCase{
		"nothing": {service: "web"},
		"an end":  {service: "web", act: create(0, 9)},
		"a copy":  {service: "api", act: create(1)},
		"a scale": {service: "api", act: impl.StewAct{Scale: true, Want: 3}},
		"a drop":  {service: "left", act: impl.StewAct{Drop: true}},
	} {
		for n, code := range map[int]int{999998: 0, 999999: 0, 1000000: 7} {
			cases = append(cases, stewActCase{fmt.Sprintf("%s at Now %d", what, n), c.service, c.act, code, now(n)})
		}
	}
	stewCheckActs(t, append(cases, []stewActCase{
		{"Next becomes the highest", "web", create(1), 0, next(999999)},
		{"Next becomes the highest by more", "web", create(7), 0, next(999993)},
		{"Next becomes one more", "web", create(2), 7, next(999999)},
		{"Next becomes one more by more", "web", create(7), 7, next(999994)},
		{"Next is the highest, and one more", "web", create(1), 7, next(1000000)},
		{"Next is the highest, and none", "web", create(0), 0, next(1000000)},
		{"Next is the highest, and an end", "web", create(0, 9), 0, next(1000000)},
		{"Next is the highest, and one more behind an end", "web", create(1, 9), 7, next(1000000)},
		{"another's Next is the highest", "api", create(1), 0, next(1000000)},

		{"copies become as many as may be", "web", create(1), 0, copies(199)},
		{"copies become as many as may be by more", "web", create(5), 0, copies(195)},
		{"copies become one more", "web", create(2), 7, copies(199)},
		{"copies become one more by more", "web", create(5), 7, copies(196)},
		{"copies are as many as may be, and one more", "web", create(1), 7, copies(200)},
		{"copies are as many as may be, and none", "web", create(0), 0, copies(200)},
		{"copies are as many as may be, and an end", "web", create(0, 9), 0, copies(200)},
		{"an end makes no room for a copy", "web", create(1, 9), 7, copies(200)},
		{"ends make no room for copies", "web", create(2, 2, 9), 7, copies(199)},
		{"copies are as many as may be, and a scale", "api", impl.StewAct{Scale: true, Want: 3}, 0, copies(200)},
		{"copies are as many as may be, and a drop", "left", impl.StewAct{Drop: true}, 0, copies(200)},
	}...))
}

// stewHurdle is something that is in the way of an act, with a code.
type stewHurdle struct {
	what string
	put  func(b *impl.StewBook, a *impl.StewAct)
}

// stewHurdledAct is done in stewYard; hurdles has for each code from 1 on those that may be put into its way, whatever others with higher codes are there.
type stewHurdledAct struct {
	service string
	act     impl.StewAct
	hurdles [7][]stewHurdle
}

func stewAlsoEnds(a *impl.StewAct, end impl.StewEnd) {
	a.Ends = append(a.Ends, end)
	slices.SortFunc(a.Ends, func(x, y impl.StewEnd) int { return x.Number - y.Number })
}

func stewBookHurdles() []stewHurdle {
	return []stewHurdle{
		{"a service is not valid", func(b *impl.StewBook, a *impl.StewAct) { b.Services[stewYardZoo].Image = 0 }},
		{"Now is too high", func(b *impl.StewBook, a *impl.StewAct) { b.Now = 1000001 }},
	}
}

func stewSeenHurdle() stewHurdle {
	return stewHurdle{"the service was seen otherwise", func(b *impl.StewBook, a *impl.StewAct) { a.Seen-- }}
}

func stewNoService() stewHurdle {
	return stewHurdle{"no such service", func(b *impl.StewBook, a *impl.StewAct) { a.Service = "none" }}
}

func stewLastNow() stewHurdle {
	return stewHurdle{"Now is the highest", func(b *impl.StewBook, a *impl.StewAct) { b.Now = 1000000 }}
}

// stewEndingAct ends and creates; second may not end behind the first, done is Ending, and none is not there.
func stewEndingAct(service string, place int, act impl.StewAct, second, done, none int) stewHurdledAct {
	also := func(b *impl.StewBook, a *impl.StewAct, number int) {
		stewAlsoEnds(a, stewSeenIn(*b, service, impl.StewAct{Ends: stewEnds(number)}).Ends[0])
	}
	return stewHurdledAct{service, act, [7][]stewHurdle{
		stewBookHurdles(),
		{
			{"too many are to be created", func(b *impl.StewBook, a *impl.StewAct) { a.Create = 21 }},
			{"Want is too high", func(b *impl.StewBook, a *impl.StewAct) { a.Want = 11 }},
			{"the last end is there twice", func(b *impl.StewBook, a *impl.StewAct) { a.Ends = append(a.Ends, a.Ends[len(a.Ends)-1]) }},
			{"a drop", func(b *impl.StewBook, a *impl.StewAct) { a.Drop = true }},
		},
		{
			stewNoService(),
			{"an end that is not there", func(b *impl.StewBook, a *impl.StewAct) { stewAlsoEnds(a, impl.StewEnd{Number: none, Seen: 1}) }},
		},
		{
			stewSeenHurdle(),
			{"the first end was seen otherwise", func(b *impl.StewBook, a *impl.StewAct) { a.Ends[0].Seen++ }},
			{"the last end was seen otherwise", func(b *impl.StewBook, a *impl.StewAct) { a.Ends[len(a.Ends)-1].Seen-- }},
		},
		{
			{"a second end may not be", func(b *impl.StewBook, a *impl.StewAct) { also(b, a, second) }},
			{"an end is Ending", func(b *impl.StewBook, a *impl.StewAct) { also(b, a, done) }},
		},
		{
			{"more than may be live", func(b *impl.StewBook, a *impl.StewAct) { a.Create = 12 }},
			{"a scale that cannot be", func(b *impl.StewBook, a *impl.StewAct) { a.Scale, a.Want = true, 9 }},
		},
		{
			stewLastNow(),
			{"Next is the highest", func(b *impl.StewBook, a *impl.StewAct) { b.Services[place].Next = 1000000 }},
			{"copies are as many as may be", func(b *impl.StewBook, a *impl.StewAct) { stewCrowded(b, 200) }},
		},
	}}
}

func stewHurdledActs() []stewHurdledAct {
	return []stewHurdledAct{
		stewEndingAct("web", stewYardWeb, impl.StewAct{Ends: stewEnds(2), Create: 1}, 4, 19, 12),
		stewEndingAct("api", stewYardApi, impl.StewAct{Ends: stewEnds(2), Create: 1, Scale: true, Want: 3}, 1, 4, 3),
		{"left", impl.StewAct{Drop: true}, [7][]stewHurdle{
			stewBookHurdles(),
			{
				{"one is to be created", func(b *impl.StewBook, a *impl.StewAct) { a.Create = 1 }},
				{"a scale", func(b *impl.StewBook, a *impl.StewAct) { a.Scale = true }},
				{"an end", func(b *impl.StewBook, a *impl.StewAct) { a.Ends = stewEnds(1) }},
			},
			{stewNoService()},
			{stewSeenHurdle()},
			nil,
			{
				{"it is not Gone", func(b *impl.StewBook, a *impl.StewAct) { b.Services[stewYardLeft].Gone = false }},
				{"it has a copy", func(b *impl.StewBook, a *impl.StewAct) {
					b.Copies = slices.Insert(b.Copies, 6, impl.StewCopy{Service: "left", Number: 1, Version: 1, Image: 1, State: impl.StewWaiting, Ending: true})
				}},
			},
			{stewLastNow()},
		}},
	}
}

// Of all that is in the way of an act, the first code is told, in the document's order.
func TestStewApplyOrder(t *testing.T) {
	t.Parallel()
	for _, c := range stewHurdledActs() {
		var chosen []stewHurdle
		// The higher codes first, so that what a lower one changes stays.
		var choose func(code, told int)
		choose = func(code, told int) {
			if code == 0 {
				b := stewYard()
				a := stewSeenIn(b, c.service, c.act)
				what := c.service
				for _, h := range chosen {
					h.put(&b, &a)
					what += ", " + h.what
				}
				stewCodes(t, what, b, a, told)
				return
			}
			choose(code-1, told)
			for _, h := range c.hurdles[code-1] {
				chosen = append(chosen, h)
				choose(code-1, code)
				chosen = chosen[:len(chosen)-1]
			}
		}
		choose(7, 0)
	}
}

// What an act does is not done twice, and not to what it was asked of: the same act again is late.
func TestStewApplyTwice(t *testing.T) {
	b := stewYard()
	for _, a := range []impl.StewAct{
		stewSeenIn(b, "web", impl.StewAct{Ends: stewEnds(2), Create: 1}),
		stewSeenIn(b, "api", impl.StewAct{Scale: true, Want: 3}),
		stewSeenIn(b, "zoo", impl.StewAct{}),
	} {
		next, code := impl.StewApply(b, a)
		if code != 0 {
			t.Errorf("%d of %+v", code, a)
		}
		stewCodes(t, "again", next, a, 4)
		stewCodes(t, "still as it was", b, a, 0)
	}
	drop := stewSeenIn(b, "left", impl.StewAct{Drop: true})
	next, _ := impl.StewApply(b, drop)
	stewCodes(t, "a drop again", next, drop, 3)
}
