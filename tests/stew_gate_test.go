package tests

import (
	"fmt"
	"math"
	"slices"
	"testing"

	"loop.example/wharfdesk/impl"
)

// stewMays says whether a copy may end, that the book stays as it is, and that the book is valid (so that false is no accident).
func stewMays(t *testing.T, what string, b impl.StewBook, service string, number int, want bool) {
	t.Helper()
	b = spread(b)
	before := whole(b)
	if !impl.StewValid(b) {
		t.Errorf("%s: the book is not valid", what)
	}
	if got := impl.StewMayEnd(b, service, number); got != want {
		t.Errorf("%s: %v of %s %d", what, got, service, number)
	}
	if !same(whole(b), before) {
		t.Errorf("%s: the book was changed", what)
	}
}

// stewWanting is stewLone with a Want and a Down; Over is 1, so that Down may be 0.
func stewWanting(want, down int, copies ...impl.StewCopy) impl.StewBook {
	b := stewLone(copies...)
	b.Services[0].Want, b.Services[0].Down, b.Services[0].Over = want, down, 1
	return b
}

// stewSomeOf are copies of stewLone's Image, all in one state.
func stewSomeOf(n int, c impl.StewCopy) []impl.StewCopy {
	return slices.Repeat([]impl.StewCopy{c}, n)
}

func TestStewMayEndStates(t *testing.T) {
	for state := impl.StewWaiting; state <= impl.StewFailed; state++ {
		ready := state == impl.StewReady
		for _, gone := range []bool{false, true} {
			for _, c := range []struct {
				what  string
				copy  impl.StewCopy
				other impl.StewCopy
				want  bool
			}{
				{"live, too few others", stewLive(5, state), stewLive(5, impl.StewWaiting), !ready || gone},
				{"live, others enough", stewLive(5, state), stewLive(5, impl.StewReady), true},
				{"live, of an old Image, too few others", stewLive(4, state), stewLive(5, impl.StewWaiting), !ready || gone},
				{"live, of an old Image, others enough", stewLive(4, state), stewLive(5, impl.StewReady), true},
				{"Ending, too few others", stewEnding(5, state), stewLive(5, impl.StewWaiting), false},
				{"Ending, others enough", stewEnding(5, state), stewLive(5, impl.StewReady), false},
			} {
				what := fmt.Sprintf("State %d, Gone %v, %s", state, gone, c.what)
				ahead, behind := stewWanting(1, 0, c.copy, c.other), stewWanting(1, 0, c.other, c.copy)
				ahead.Services[0].Gone, behind.Services[0].Gone = gone, gone
				stewMays(t, what, ahead, "web", 1, c.want)
				stewMays(t, what+", behind the other", behind, "web", 2, c.want)
			}
		}
	}
}

func TestStewMayEndAlone(t *testing.T) {
	stewMays(t, "the only copy, one wanted", stewWanting(1, 0, stewLive(5, 3)), "web", 1, false)
	stewMays(t, "the only copy, which may be down", stewWanting(1, 1, stewLive(5, 3)), "web", 1, true)
	stewMays(t, "the only copy, none wanted", stewWanting(0, 0, stewLive(5, 3)), "web", 1, true)
	stewMays(t, "the only copy, more may be down than is wanted", stewWanting(1, 10, stewLive(5, 3)), "web", 1, true)
	stewMays(t, "the only copy, none wanted, ten may be down", stewWanting(0, 10, stewLive(5, 3)), "web", 1, true)
	stewMays(t, "the only copy, ten wanted, nine may be down", stewWanting(10, 9, stewLive(5, 3)), "web", 1, false)
	stewMays(t, "the only copy, ten wanted, ten may be down", stewWanting(10, 10, stewLive(5, 3)), "web", 1, true)
	stewMays(t, "the only copy, failed", stewWanting(10, 0, stewLive(5, 4)), "web", 1, true)
}

// Each Want and Down, with just as many others that are ready as there must be, and fewer and more.
func TestStewMayEndOthers(t *testing.T) {
	for want := range impl.StewMaxWant + 1 {
		for down := range impl.StewMaxSpare + 1 {
			for others := range impl.StewMaxWant + 2 {
				b := stewWanting(want, down, stewSomeOf(others+1, stewLive(5, impl.StewReady))...)
				for _, number := range []int{1, others + 1} {
					what := fmt.Sprintf("Want %d, Down %d, %d others", want, down, others)
					stewMays(t, what, b, "web", number, others >= want-down)
				}
			}
		}
	}
}

// Which of the others are told of: with two wanted, one of which may be down, there must be one.
func TestStewMayEndWhichOthers(t *testing.T) {
	for _, c := range []struct {
		what   string
		others []impl.StewCopy
		want   bool
	}{
		{"none", nil, false},
		{"one", []impl.StewCopy{stewLive(5, 3)}, true},
		{"one of an old Image", []impl.StewCopy{stewLive(4, 3)}, true},
		{"one of a higher Image", []impl.StewCopy{stewLive(6, 3)}, true},
		{"one that is ready but Ending", []impl.StewCopy{stewEnding(5, 3)}, false},
		{"many that are ready but Ending", stewSomeOf(9, stewEnding(5, 3)), false},
		{"many that wait", stewSomeOf(9, stewLive(5, 1)), false},
		{"many that start", stewSomeOf(9, stewLive(5, 2)), false},
		{"many that failed", stewSomeOf(9, stewLive(5, 4)), false},
		{"many that are all but ready, and one", append(stewSomeOf(9, stewEnding(5, 3)), stewLive(5, 1), stewLive(5, 2), stewLive(5, 4), stewLive(5, 3)), true},
	} {
		own := stewLive(5, impl.StewReady)
		n := len(c.others) + 1
		stewMays(t, c.what+", behind it", stewWanting(2, 1, append([]impl.StewCopy{own}, c.others...)...), "web", 1, c.want)
		stewMays(t, c.what+", ahead of it", stewWanting(2, 1, append(slices.Clone(c.others), own)...), "web", n, c.want)
	}
}

// Others are those of its own service, however many stand beside it in the book.
func TestStewMayEndOfOtherServices(t *testing.T) {
	b := impl.StewBook{Now: 9, Berths: []impl.StewBerth{{Name: "b1"}}}
	for _, name := range []string{"we", "web", "web-1", "webs"} {
		b.Services = append(b.Services, impl.StewService{Name: name, Version: 1, Image: 1, Want: 2, Down: 1, Next: 9})
		for number := 1; number <= 5; number++ {
			if name != "web" || number == 3 {
				b.Copies = append(b.Copies, impl.StewCopy{Service: name, Number: number, Version: 1, Image: 1, State: impl.StewReady, Berth: "b1"})
			}
		}
	}
	stewMays(t, "alone between others", b, "web", 3, false)
	for _, name := range []string{"we", "web-1", "webs"} {
		stewMays(t, "one of many", b, name, 3, true)
	}
	// What is wanted is its own, too.
	b.Services[0].Want, b.Services[1].Want, b.Services[2].Gone = 10, 1, true
	stewMays(t, "one wanted, which may be down", b, "web", 3, true)
	stewMays(t, "ten wanted", b, "we", 3, false)
	stewMays(t, "Gone", b, "web-1", 3, true)
	b.Services[1].Want, b.Services[2].Want = 2, 10
	stewMays(t, "another is Gone", b, "web", 3, false)
}

func TestStewMayEndOfNone(t *testing.T) {
	for _, number := range []int{1, 3, 8, 11, 18, 20, 1000000, 0, -1, -2, math.MinInt, math.MaxInt} {
		stewMays(t, "no such copy", stewFleet(), "web", number, false)
	}
	for _, service := range []string{"", "w", "we", "webs", "WEB", "b1", "web ", "zebra", "\xff", "aa", letters(21)} {
		for _, number := range []int{0, 1, 2, 9} {
			stewMays(t, "no such service", stewFleet(), service, number, false)
		}
	}
	stewMays(t, "another's Number", stewFleet(), "api", 9, false)
	stewMays(t, "a service without copies", stewFleet(), "spare", 1, false)
	stewMays(t, "nothing at all", impl.StewBook{}, "web", 1, false)
	stewMays(t, "nothing at all, of no name", impl.StewBook{}, "", 0, false)

	stewMays(t, "one that waits", stewFleet(), "web", 10, true)
	stewMays(t, "one that failed", stewFleet(), "web", 9, true)
	stewMays(t, "the only one that is ready", stewFleet(), "web", 2, false)
	stewMays(t, "one that is Ending", stewFleet(), "web", 19, false)
	stewMays(t, "one that is Ending, of a service that is Gone", stewFleet(), "old", 2, false)
	stewMays(t, "one of all that there may be", stewCrowd(8, 200, 6), "s07", 200, true)
	stewMays(t, "one more", stewCrowd(8, 200, 6), "s07", 201, false)
}

// stewSpoilt are ways in which the fleet is not valid; in each of them web's copies 9 and 10 stand as they are.
func stewSpoilt() map[string]stewTurn {
	return map[string]stewTurn{
		"Now":                       func(b *impl.StewBook) { b.Now = 1000001 },
		"Now below 0":               func(b *impl.StewBook) { b.Now = -1 },
		"Now below a Version":       func(b *impl.StewBook) { b.Now = 39 },
		"its service":               stewOfService(stewWeb, func(s *impl.StewService) { s.Want = 11 }),
		"its service's spare":       stewOfService(stewWeb, func(s *impl.StewService) { s.Down, s.Over = 0, 0 }),
		"another service":           stewOfService(stewApi, func(s *impl.StewService) { s.Cool = 4 }),
		"another service's Version": stewOfService(stewSpare, func(s *impl.StewService) { s.Version = 0 }),
		"services out of order":     func(b *impl.StewBook) { stewSwap(b.Services, 0, 1) },
		"a service twice":           func(b *impl.StewBook) { b.Services = append(b.Services, b.Services[stewWeb]) },
		"another's copy":            stewOfCopy(stewFirstCopy, func(c *impl.StewCopy) { c.Image = 0 }),
		"copies out of order":       func(b *impl.StewBook) { stewSwap(b.Copies, 0, 1) },
		"a copy of no service":      stewOfCopy(stewOldCopy, func(c *impl.StewCopy) { c.Service = "older" }),
		"a copy behind Next":        stewOfCopy(stewLastCopy, func(c *impl.StewCopy) { c.Number = 20 }),
		"a State":                   stewOfCopy(stewReadyCopy, func(c *impl.StewCopy) { c.State = 5 }),
		"a copy on no berth":        stewOfCopy(stewReadyCopy, func(c *impl.StewCopy) { c.Berth = "b9" }),
		"a berth":                   func(b *impl.StewBook) { b.Berths[1].Name = "B2" },
		"berths out of order":       func(b *impl.StewBook) { stewSwap(b.Berths, 0, 2) },
		"one berth too many":        func(b *impl.StewBook) { b.Berths = append(b.Berths, stewCrowd(0, 0, 4).Berths...) },
	}
}

func TestStewMayEndNotValid(t *testing.T) {
	for what, turn := range stewSpoilt() {
		b := spread(stewTurned(turn))
		before := whole(b)
		if impl.StewValid(b) {
			t.Errorf("%s: valid", what)
		}
		for _, number := range []int{2, 9, 10, 19} {
			if impl.StewMayEnd(b, "web", number) {
				t.Errorf("%s: %d may end", what, number)
			}
		}
		if !same(whole(b), before) {
			t.Errorf("%s: the book was changed", what)
		}
	}
}
