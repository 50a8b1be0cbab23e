package tests

import (
	"fmt"
	"math"
	"slices"
	"testing"

	"loop.example/wharfdesk/impl"
)

// stewFleet is valid: api follows its load, old is Gone, web does not follow one and has copies in each State, some of which are Ending or of an old Image; spare has no copies.
func stewFleet() impl.StewBook {
	return impl.StewBook{
		Now: 40,
		Services: []impl.StewService{
			{Name: "api", Version: 31, Image: 7, Want: 2, Down: 1, Next: 4, Per: 50, Least: 1, Most: 4, Load: 90, Cool: 2},
			{Name: "old", Version: 12, Gone: true, Image: 1, Want: 3, Over: 2, Next: 6},
			{Name: "spare", Version: 40, Image: 3, Want: 0, Down: 2, Over: 2, Next: 1},
			{Name: "web", Version: 9, Image: 2, Want: 3, Down: 1, Over: 1, Next: 20},
		},
		Copies: []impl.StewCopy{
			{Service: "api", Number: 1, Version: 20, Image: 7, State: impl.StewReady, Berth: "b1"},
			{Service: "api", Number: 3, Version: 21, Image: 6, State: impl.StewStarting, Berth: "b2"},
			{Service: "old", Number: 2, Version: 40, Image: 1, State: impl.StewReady, Ending: true, Berth: "b3"},
			{Service: "web", Number: 2, Version: 1, Image: 2, State: impl.StewReady, Berth: "b1"},
			{Service: "web", Number: 9, Version: 30, Image: 1, State: impl.StewFailed, Berth: "b1"},
			{Service: "web", Number: 10, Version: 30, Image: 2, State: impl.StewWaiting},
			{Service: "web", Number: 19, Version: 30, Image: 2, State: impl.StewWaiting, Ending: true},
		},
		Berths: []impl.StewBerth{{Name: "b1"}, {Name: "b2", Drain: true}, {Name: "b3"}},
	}
}

// Places of things in stewFleet.
const (
	stewApi = iota
	stewOld
	stewSpare
	stewWeb
)

const (
	stewFirstCopy   = 0
	stewNextCopy    = 1
	stewOldCopy     = 2
	stewReadyCopy   = 3
	stewFailedCopy  = 4
	stewWaitingCopy = 5
	stewLastCopy    = 6
)

type stewTurn = func(*impl.StewBook)

func stewTurned(turn stewTurn) impl.StewBook {
	b := stewFleet()
	turn(&b)
	return b
}

// stewOfService changes the service at a place, stewOfCopy the copy.
func stewOfService(place int, change func(*impl.StewService)) stewTurn {
	return func(b *impl.StewBook) { change(&b.Services[place]) }
}

func stewOfCopy(place int, change func(*impl.StewCopy)) stewTurn {
	return func(b *impl.StewBook) { change(&b.Copies[place]) }
}

func stewSwap[T any](list []T, i, j int) {
	list[i], list[j] = list[j], list[i]
}

type stewCase struct {
	what string
	want bool
	turn stewTurn
}

func stewCheckAll(t *testing.T, cases []stewCase) {
	t.Helper()
	for _, c := range cases {
		b := spread(stewTurned(c.turn))
		before := whole(b)
		if got := impl.StewValid(b); got != c.want {
			t.Errorf("%s: %v", c.what, got)
		}
		if !same(whole(b), before) {
			t.Errorf("%s: the book was changed", c.what)
		}
	}
}

// stewNumber puts a number into a field of a service or a copy, in a book.
type stewNumber struct {
	what  string
	least int
	most  int
	put   func(*impl.StewBook, int)
}

func stewServiceNumber(what string, place, least, most int, field func(*impl.StewService) *int) stewNumber {
	return stewNumber{what, least, most, func(b *impl.StewBook, n int) { *field(&b.Services[place]) = n }}
}

func stewCopyNumber(what string, place, least, most int, field func(*impl.StewCopy) *int) stewNumber {
	return stewNumber{what, least, most, func(b *impl.StewBook, n int) { *field(&b.Copies[place]) = n }}
}

// Each number of a book stands from its least to its most, all else being as in stewFleet.
func TestStewValidNumbers(t *testing.T) {
	for _, f := range []stewNumber{
		{"Now", 40, 1000000, func(b *impl.StewBook, n int) { b.Now = n }},
		{"Now of nothing", 0, 1000000, func(b *impl.StewBook, n int) { *b = impl.StewBook{Now: n} }},
		{"Now of berths alone", 0, 1000000, func(b *impl.StewBook, n int) { *b = impl.StewBook{Now: n, Berths: b.Berths} }},
		stewServiceNumber("Version of a service", stewWeb, 1, 40, func(s *impl.StewService) *int { return &s.Version }),
		stewServiceNumber("Version of one that is Gone", stewOld, 1, 40, func(s *impl.StewService) *int { return &s.Version }),
		stewServiceNumber("Image", stewWeb, 1, 1000000, func(s *impl.StewService) *int { return &s.Image }),
		stewServiceNumber("Image of one that is Gone", stewOld, 1, 1000000, func(s *impl.StewService) *int { return &s.Image }),
		stewServiceNumber("Next", stewWeb, 20, 1000000, func(s *impl.StewService) *int { return &s.Next }),
		stewServiceNumber("Next without copies", stewSpare, 1, 1000000, func(s *impl.StewService) *int { return &s.Next }),
		stewServiceNumber("Want", stewWeb, 0, 10, func(s *impl.StewService) *int { return &s.Want }),
		stewServiceNumber("Want of one that follows its load", stewApi, 0, 10, func(s *impl.StewService) *int { return &s.Want }),
		stewServiceNumber("Want of one that is Gone", stewOld, 0, 10, func(s *impl.StewService) *int { return &s.Want }),
		stewServiceNumber("Down", stewWeb, 0, 10, func(s *impl.StewService) *int { return &s.Down }),
		stewServiceNumber("Down without an Over", stewApi, 1, 10, func(s *impl.StewService) *int { return &s.Down }),
		stewServiceNumber("Over", stewWeb, 0, 10, func(s *impl.StewService) *int { return &s.Over }),
		stewServiceNumber("Over without a Down", stewOld, 1, 10, func(s *impl.StewService) *int { return &s.Over }),
		stewServiceNumber("Per", stewApi, 1, 1000000, func(s *impl.StewService) *int { return &s.Per }),
		stewServiceNumber("Per alone", stewWeb, 0, 1000000, func(s *impl.StewService) *int { return &s.Per }),
		stewServiceNumber("Load", stewApi, 0, 1000000, func(s *impl.StewService) *int { return &s.Load }),
		stewServiceNumber("Load of a Per of 0", stewWeb, 0, 0, func(s *impl.StewService) *int { return &s.Load }),
		stewServiceNumber("Least", stewApi, 0, 4, func(s *impl.StewService) *int { return &s.Least }),
		stewServiceNumber("Least of a Per of 0", stewWeb, 0, 0, func(s *impl.StewService) *int { return &s.Least }),
		stewServiceNumber("Most", stewApi, 1, 10, func(s *impl.StewService) *int { return &s.Most }),
		stewServiceNumber("Most of a Per of 0", stewWeb, 0, 0, func(s *impl.StewService) *int { return &s.Most }),
		{"Least and Most", 0, 10, func(b *impl.StewBook, n int) { b.Services[stewApi].Least, b.Services[stewApi].Most = n, n }},
		{"Least and Most of a Per of 0", 0, 0, func(b *impl.StewBook, n int) { b.Services[stewWeb].Least, b.Services[stewWeb].Most = n, n }},
		stewServiceNumber("Cool", stewApi, 0, 3, func(s *impl.StewService) *int { return &s.Cool }),
		stewServiceNumber("Cool of a Per of 0", stewWeb, 0, 0, func(s *impl.StewService) *int { return &s.Cool }),
		stewServiceNumber("Load of a Per of 0, Gone", stewOld, 0, 0, func(s *impl.StewService) *int { return &s.Load }),
		stewCopyNumber("Version of a copy", stewFirstCopy, 1, 40, func(c *impl.StewCopy) *int { return &c.Version }),
		stewCopyNumber("Version of one that is Ending", stewLastCopy, 1, 40, func(c *impl.StewCopy) *int { return &c.Version }),
		stewCopyNumber("Image of a copy", stewFirstCopy, 1, 1000000, func(c *impl.StewCopy) *int { return &c.Image }),
		stewCopyNumber("Image of one that is Ending", stewLastCopy, 1, 1000000, func(c *impl.StewCopy) *int { return &c.Image }),
		stewCopyNumber("Number of the first copy", stewFirstCopy, 1, 2, func(c *impl.StewCopy) *int { return &c.Number }),
		stewCopyNumber("Number of a copy behind another", stewNextCopy, 2, 3, func(c *impl.StewCopy) *int { return &c.Number }),
		stewCopyNumber("Number of one of a service that is Gone", stewOldCopy, 1, 5, func(c *impl.StewCopy) *int { return &c.Number }),
		stewCopyNumber("Number between others", stewFailedCopy, 3, 9, func(c *impl.StewCopy) *int { return &c.Number }),
		stewCopyNumber("Number of the last copy", stewLastCopy, 11, 19, func(c *impl.StewCopy) *int { return &c.Number }),
		stewCopyNumber("State of one with a berth", stewFirstCopy, 2, 4, func(c *impl.StewCopy) *int { return &c.State }),
		stewCopyNumber("State of one without", stewWaitingCopy, 1, 1, func(c *impl.StewCopy) *int { return &c.State }),
		stewCopyNumber("State of one that is Ending with a berth", stewOldCopy, 2, 4, func(c *impl.StewCopy) *int { return &c.State }),
		stewCopyNumber("State of one that is Ending without", stewLastCopy, 1, 1, func(c *impl.StewCopy) *int { return &c.State }),
	} {
		for _, n := range []int{math.MinInt, f.least - 2, f.least - 1, f.least, f.most, f.most + 1, f.most + 2, math.MaxInt, -1, 0} {
			b := stewTurned(func(b *impl.StewBook) { f.put(b, n) })
			if got, want := impl.StewValid(b), f.least <= n && n <= f.most; got != want {
				t.Errorf("%s of %d: %v", f.what, n, got)
			}
		}
	}
}

func TestStewValidTogether(t *testing.T) {
	stewCheckAll(t, []stewCase{
		{"the fleet", true, func(*impl.StewBook) {}},
		{"nothing", true, func(b *impl.StewBook) { *b = impl.StewBook{} }},
		{"empty lists", true, func(b *impl.StewBook) {
			*b = impl.StewBook{Services: []impl.StewService{}, Copies: []impl.StewCopy{}, Berths: []impl.StewBerth{}}
		}},
		{"without copies", true, func(b *impl.StewBook) { b.Copies = nil }},
		{"without copies and berths", true, func(b *impl.StewBook) { b.Copies, b.Berths = nil, nil }},
		{"without services", false, func(b *impl.StewBook) { b.Services = nil }},
		{"without berths", false, func(b *impl.StewBook) { b.Berths = nil }},
		{"without a service that copies are of", false, func(b *impl.StewBook) { b.Services = b.Services[:stewWeb] }},
		{"without a berth that a copy stands on", false, func(b *impl.StewBook) { b.Berths = b.Berths[:2] }},
		{"nothing but a berth, at Now 0", true, func(b *impl.StewBook) { *b = impl.StewBook{Berths: b.Berths[:1]} }},
		{"a service at Now 0", false, func(b *impl.StewBook) { *b = impl.StewBook{Services: b.Services[stewSpare:stewWeb]} }},
		{"a service of Version 0 at Now 0", false, func(b *impl.StewBook) {
			*b = impl.StewBook{Services: b.Services[stewSpare:stewWeb]}
			b.Services[0].Version = 0
		}},

		{"Down and Over 0", false, stewOfService(stewWeb, func(s *impl.StewService) { s.Down, s.Over = 0, 0 })},
		{"Down and Over 0, Gone", false, stewOfService(stewOld, func(s *impl.StewService) { s.Down, s.Over = 0, 0 })},
		{"Down and Over 0, with a Want of 0", false, stewOfService(stewSpare, func(s *impl.StewService) { s.Down, s.Over = 0, 0 })},
		{"Down and Over at their most", true, stewOfService(stewWeb, func(s *impl.StewService) { s.Down, s.Over = 10, 10 })},
		{"Down above Want", true, stewOfService(stewSpare, func(s *impl.StewService) { s.Down = 9 })},
		{"Down below 0, Over above it by more", false, stewOfService(stewWeb, func(s *impl.StewService) { s.Down, s.Over = -1, 5 })},
		{"Over below 0, Down above it by more", false, stewOfService(stewWeb, func(s *impl.StewService) { s.Down, s.Over = 5, -1 })},
		{"Down and Over as far as they go", false, stewOfService(stewWeb, func(s *impl.StewService) { s.Down, s.Over = math.MaxInt, math.MaxInt })},

		{"Least above Most", false, stewOfService(stewApi, func(s *impl.StewService) { s.Least, s.Most = 4, 3 })},
		{"Least above Most, which is 0", false, stewOfService(stewApi, func(s *impl.StewService) { s.Least, s.Most = 1, 0 })},
		{"Least and Most below 0", false, stewOfService(stewApi, func(s *impl.StewService) { s.Least, s.Most = -2, -1 })},
		{"Least and Most above Want", true, stewOfService(stewApi, func(s *impl.StewService) { s.Least, s.Most = 9, 10 })},
		{"Least and Most below Want", true, stewOfService(stewApi, func(s *impl.StewService) { s.Least, s.Most = 0, 1 })},
		{"a Per, and Least, Most, Load and Cool 0", true, stewOfService(stewApi, func(s *impl.StewService) { s.Least, s.Most, s.Load, s.Cool = 0, 0, 0, 0 })},
		{"a Per of 0, all else staying", false, stewOfService(stewApi, func(s *impl.StewService) { s.Per = 0 })},
		{"a Per of 0, Load and Cool staying", false, stewOfService(stewApi, func(s *impl.StewService) { s.Per, s.Least, s.Most = 0, 0, 0 })},
		{"a Per of 0, and Least, Most, Load and Cool", true, stewOfService(stewApi, func(s *impl.StewService) { s.Per, s.Least, s.Most, s.Load, s.Cool = 0, 0, 0, 0, 0 })},
		{"all of its load at its most", true, stewOfService(stewApi, func(s *impl.StewService) { s.Per, s.Least, s.Most, s.Load, s.Cool = 1000000, 10, 10, 1000000, 3 })},

		{"Number, Next being lower", false, stewOfService(stewApi, func(s *impl.StewService) { s.Next = 3 })},
		{"Next as low as it goes", false, stewOfService(stewApi, func(s *impl.StewService) { s.Next = math.MinInt })},
		{"Number as high as it goes", true, func(b *impl.StewBook) { b.Services[stewWeb].Next, b.Copies[stewLastCopy].Number = 1000000, 999999 }},
		{"Number one higher", false, func(b *impl.StewBook) { b.Services[stewWeb].Next, b.Copies[stewLastCopy].Number = 1000000, 1000000 }},
		{"Number by another service's Next", false, stewOfCopy(stewNextCopy, func(c *impl.StewCopy) { c.Number = 19 })},
		{"Now below a service's Version", false, func(b *impl.StewBook) { b.Now, b.Copies = 39, nil }},
		{"Now below a copy's Version", false, func(b *impl.StewBook) { b.Now, b.Services[stewSpare].Version = 39, 1 }},
		{"Gone, with copies that are not Ending", true, stewOfCopy(stewOldCopy, func(c *impl.StewCopy) { c.Ending = false })},
		{"Gone, without copies", true, func(b *impl.StewBook) { b.Copies = slices.Delete(b.Copies, stewOldCopy, stewOldCopy+1) }},
		{"more copies than are wanted", true, stewOfService(stewWeb, func(s *impl.StewService) { s.Want, s.Down, s.Over = 0, 1, 0 })},
	})
}

func TestStewValidOrder(t *testing.T) {
	stewCheckAll(t, []stewCase{
		{"services turned around", false, func(b *impl.StewBook) { stewSwap(b.Services, stewSpare, stewWeb) }},
		{"services turned around, without copies", false, func(b *impl.StewBook) { b.Copies = nil; stewSwap(b.Services, 0, 1) }},
		{"two services of one Name", false, stewOfService(stewSpare, func(s *impl.StewService) { s.Name = "old" })},
		{"two services of one Name, the last", false, stewOfService(stewSpare, func(s *impl.StewService) { s.Name = "web" })},
		{"a service twice", false, func(b *impl.StewBook) { b.Services = append(b.Services, b.Services[stewWeb]) }},
		{"a Name that begins with the one ahead", true, stewOfService(stewSpare, func(s *impl.StewService) { s.Name = "old-" })},
		{"a Name that the one ahead begins with", false, stewOfService(stewSpare, func(s *impl.StewService) { s.Name = "ol" })},
		{"a - ahead of digits, which are ahead of letters", true, func(b *impl.StewBook) {
			b.Copies = nil
			for i, name := range []string{"-", "0", "9", "a"} {
				b.Services[i].Name = name
			}
		}},

		{"copies of one service turned around", false, func(b *impl.StewBook) { stewSwap(b.Copies, stewFirstCopy, stewNextCopy) }},
		{"the last two copies turned around", false, func(b *impl.StewBook) { stewSwap(b.Copies, stewWaitingCopy, stewLastCopy) }},
		{"services of copies turned around", false, func(b *impl.StewBook) { stewSwap(b.Copies, stewNextCopy, stewOldCopy) }},
		{"copies by Number and then by Service", false, func(b *impl.StewBook) {
			slices.SortStableFunc(b.Copies, func(x, y impl.StewCopy) int { return x.Number - y.Number })
		}},
		{"Numbers by their digits", false, func(b *impl.StewBook) { stewSwap(b.Copies, stewFailedCopy, stewWaitingCopy) }},
		{"two copies alike", false, stewOfCopy(stewFailedCopy, func(c *impl.StewCopy) { c.Number = 2 })},
		{"a copy twice", false, func(b *impl.StewBook) { b.Copies = append(b.Copies, b.Copies[stewLastCopy]) }},
		{"one Number in two services", true, stewOfCopy(stewOldCopy, func(c *impl.StewCopy) { c.Number = 3 })},
		{"a copy of no service", false, stewOfCopy(stewFirstCopy, func(c *impl.StewCopy) { c.Service = "abc" })},
		{"a copy of no service, the last", false, stewOfCopy(stewLastCopy, func(c *impl.StewCopy) { c.Service = "webs" })},
		{"a copy of a service with no Name", false, stewOfCopy(stewFirstCopy, func(c *impl.StewCopy) { c.Service = "" })},
		{"a copy of what is a berth", false, stewOfCopy(stewNextCopy, func(c *impl.StewCopy) { c.Service = "b1" })},
		{"a copy of the beginning of a service", false, stewOfCopy(stewFirstCopy, func(c *impl.StewCopy) { c.Service = "ap" })},

		{"berths turned around", false, func(b *impl.StewBook) { stewSwap(b.Berths, 0, 1) }},
		{"the last berths turned around", false, func(b *impl.StewBook) { stewSwap(b.Berths, 1, 2) }},
		{"a berth twice", false, func(b *impl.StewBook) { b.Berths = append(b.Berths, b.Berths[2]) }},
		{"two berths of one Name, one of them to be drained", false, func(b *impl.StewBook) {
			b.Berths = append(b.Berths, impl.StewBerth{Name: "b3", Drain: true})
		}},
		{"a berth of a service's Name", true, func(b *impl.StewBook) { b.Berths = append(b.Berths, impl.StewBerth{Name: "web"}) }},
	})
}

func TestStewValidStands(t *testing.T) {
	var cases []stewCase
	for state := -1; state <= 6; state++ {
		for berth, there := range map[string]bool{"": false, "b1": true, "b2": true, "b4": false, "b": false, "b11": false, "B1": false, " ": false, "web": false} {
			for _, ending := range []bool{false, true} {
				want := state == 1 && berth == "" || state >= 2 && state <= 4 && there
				cases = append(cases, stewCase{fmt.Sprintf("State %d on %q, Ending %v", state, berth, ending), want, stewOfCopy(stewReadyCopy, func(c *impl.StewCopy) {
					c.State, c.Berth, c.Ending = state, berth, ending
				})})
			}
		}
	}
	stewCheckAll(t, cases)
}

// stewWrongNames are none, in part two.
func stewWrongNames() []string {
	list := []string{"", letters(impl.StewMaxName + 1), letters(300), "é", "a\xff"}
	for c := range 256 {
		if !(c >= 'a' && c <= 'z' || c >= '0' && c <= '9' || c == '-') {
			list = append(list, string([]byte{byte(c)}), string([]byte{'a', byte(c), 'b'}), letters(impl.StewMaxName-1)+string([]byte{byte(c)}))
		}
	}
	return list
}

func stewRightNames() []string {
	list := []string{letters(17), letters(impl.StewMaxName), "-", "--", "0", "00", "-a", "a-"}
	for c := range 256 {
		if c >= 'a' && c <= 'z' || c >= '0' && c <= '9' || c == '-' {
			list = append(list, string([]byte{byte(c)}), letters(impl.StewMaxName-1)+string([]byte{byte(c)}))
		}
	}
	return list
}

func TestStewValidNames(t *testing.T) {
	lone := func(s, b string) []impl.StewBook {
		service := impl.StewService{Name: s, Version: 1, Image: 1, Down: 1, Next: 2}
		bare := impl.StewBook{Now: 1, Services: []impl.StewService{service}, Berths: []impl.StewBerth{{Name: b}}}
		full := bare
		full.Copies = []impl.StewCopy{{Service: s, Number: 1, Version: 1, Image: 1, State: impl.StewReady, Berth: b}}
		return []impl.StewBook{bare, full}
	}
	for _, name := range stewRightNames() {
		for i, b := range append(lone(name, "b"), lone("s", name)...) {
			if !impl.StewValid(b) {
				t.Errorf("%q is no name in book %d", name, i)
			}
		}
	}
	for _, name := range stewWrongNames() {
		for i, b := range append(lone(name, "b"), lone("s", name)...) {
			if impl.StewValid(b) {
				t.Errorf("%q is a name in book %d", name, i)
			}
		}
	}
}

// stewCrowd has so many services, copies in all, and berths; the copies are of the last service, as far as there is one.
func stewCrowd(services, copies, berths int) impl.StewBook {
	b := impl.StewBook{Now: 3}
	for i := range services {
		b.Services = append(b.Services, impl.StewService{Name: fmt.Sprintf("s%02d", i), Version: 3, Image: 1, Over: 1, Next: copies + 1})
	}
	for i := range copies {
		b.Copies = append(b.Copies, impl.StewCopy{Service: fmt.Sprintf("s%02d", services-1), Number: i + 1, Version: 2, Image: 1, State: impl.StewWaiting})
	}
	for i := range berths {
		b.Berths = append(b.Berths, impl.StewBerth{Name: fmt.Sprintf("b%02d", i)})
	}
	return b
}

func TestStewValidMany(t *testing.T) {
	for _, c := range []struct {
		services, copies, berths int
		want                     bool
	}{
		{8, 200, 6, true},
		{8, 0, 0, true},
		{9, 0, 0, false},
		{9, 200, 6, false},
		{30, 0, 0, false},
		{1, 200, 0, true},
		{1, 201, 0, false},
		{8, 201, 6, false},
		{1, 1000, 0, false},
		{0, 1, 0, false},
		{0, 0, 6, true},
		{0, 0, 7, false},
		{8, 200, 7, false},
		{0, 0, 50, false},
	} {
		if got := impl.StewValid(stewCrowd(c.services, c.copies, c.berths)); got != c.want {
			t.Errorf("%d services, %d copies, %d berths: %v", c.services, c.copies, c.berths, got)
		}
	}
}
