package tests

import (
	"math"
	"slices"
	"strconv"
	"strings"
	"testing"

	"loop.example/wharfdesk/impl"
)

// hallActsBy is the document's sentence on what a steward asks for who sees books.
func hallActsBy(h house, b twoBooks, steward int) []entry {
	if !hallIsOk(h, b) || steward < 1 || steward > 6 {
		return nil
	}
	var list []entry
	for _, a := range stewAskedBy(steward, b.Stew) {
		whole := hallActed(b.Stew.Now, a)
		best := whole
		for ends := range len(a.Ends) + 1 {
			some := whole
			some.Act.Ends = a.Ends[:ends]
			if hallFormAsRead(some) != "" {
				best = some
			}
		}
		list = append(list, best)
	}
	return list
}

// checkActs says what a steward asks for, in forms.
func checkActs(t *testing.T, what string, h house, b twoBooks, steward int, forms ...string) {
	t.Helper()
	h, b = spread(h), spread(b)
	houseWas, booksWere := whole(h), whole(b)
	got := impl.HallActs(h, b, steward)
	var told texts
	for _, e := range got {
		told = append(told, impl.HallForm(e))
		if e.Kind != impl.HallAct || e.Number != b.Stew.Now {
			t.Errorf("%s: %d asks for %+v", what, steward, e)
		}
	}
	if !slices.Equal(told, forms) {
		t.Errorf("%s: %d asks for %q, not for %q", what, steward, told, forms)
	}
	if byReading := hallActsBy(h, b, steward); !same(got, byReading) {
		t.Errorf("%s: %d asks for %+v, and is read to ask for %+v", what, steward, got, byReading)
	}
	if !same(whole(h), houseWas) || !same(whole(b), booksWere) {
		t.Errorf("%s: an argument is changed", what)
	}
	newMemory(t, what, got, h, b, impl.HallActs(h, b, steward))
}

// Each steward, in the order of its acts, and those that there are not.
func TestHallActs(t *testing.T) {
	h := hallHouse()
	asked := map[int]string{
		impl.StewCounter: "act 30 log 24 1 * * *",
		impl.StewWaver:   "act 30 api 21 1 * * *",
		impl.StewMender:  "act 30 api 21 0 * 4:5 *",
		impl.StewScaler:  "act 30 db 23 0 2:0 * *",
		impl.StewSweeper: "act 30 cron 22 0 * * drop",
		impl.StewDrainer: "act 30 db 23 1 * * *",
	}
	for steward, form := range asked {
		checkActs(t, "books", h, hallBooks(), steward, form)
		checkActs(t, "a late Now", h, hallTurned(stewAt(999999)), steward, strings.Replace(form, "30", "999999", 1))
		checkActs(t, "the last Now", h, hallTurned(stewAt(1000000)), steward, strings.Replace(form, "30", "1000000", 1))
		checkActs(t, "the last Now of Gate", h, hallTurned(gateAt(1000000)), steward, form)
		checkActs(t, "the first books", h, impl.HallFirst(h), steward)
		checkActs(t, "no books", house{}, twoBooks{}, steward)
	}
	for _, steward := range []int{math.MinInt, -1, 0, 7, 8, math.MaxInt} {
		checkActs(t, "no steward", h, hallBooks(), steward)
	}
	noCopies := ofStew(func(s *impl.StewBook) { s.Copies = nil })
	checkActs(t, "several, in order", h, hallTurned(noCopies), impl.StewCounter, "act 30 api 21 3 * * *", "act 30 db 23 2 * * *", "act 30 log 24 2 * * *", "act 30 web 25 2 * * *")
	failed := ofStew(func(s *impl.StewBook) {
		for i := range s.Copies {
			s.Copies[i].State, s.Copies[i].Berth = impl.StewFailed, "b1"
		}
	})
	checkActs(t, "several ends, in order", h, hallTurned(failed), impl.StewMender,
		"act 30 api 21 0 * 1:3,2:4,4:5 *", "act 30 db 23 0 * 2:6,3:7 *", "act 30 log 24 0 * 1:8 *", "act 30 web 25 0 * 3:9,4:10,5:11 *")
	gone := func(b *twoBooks) {
		for i := range b.Stew.Services {
			b.Stew.Services[i].Gone = true
		}
		for i := range b.Gate.Objects {
			b.Gate.Objects[i].Ending = true
		}
	}
	checkActs(t, "all gone", h, hallTurned(gone), impl.StewSweeper,
		"act 30 api 21 0 * 1:3,2:4,4:5 *", "act 30 cron 22 0 * * drop", "act 30 db 23 0 * 2:6,3:7 *", "act 30 log 24 0 * 1:8 *", "act 30 web 25 0 * 3:9,4:10,5:11 *")
	for _, steward := range []int{impl.StewCounter, impl.StewWaver, impl.StewScaler, impl.StewDrainer} {
		checkActs(t, "all gone", h, hallTurned(gone), steward)
	}
}

func TestHallActsNotOk(t *testing.T) {
	for steward := range 8 {
		for what, b := range map[string]twoBooks{
			"Gate is not ok":    hallTurned(gateAt(1)),
			"Stew is not valid": hallTurned(stewAt(1)),
			"they are not tied": hallTurned(ofService(hallWebService, isGone)),
		} {
			checkActs(t, what, hallHouse(), b, steward)
		}
		for what, h := range hallBadHouses() {
			checkActs(t, what, h, hallBooks(), steward)
			checkActs(t, what, h, twoBooks{}, steward)
		}
		checkActs(t, "another house", house{}, hallBooks(), steward)
	}
}

// hasCopies gives a service so many copies, with the Numbers from first on, turned.
func hasCopies(service, many, first int, turn func(place int, c *impl.StewCopy)) booksTurn {
	return ofStew(func(s *impl.StewBook) {
		of := &s.Services[service]
		s.Copies = slices.DeleteFunc(slices.Clone(s.Copies), func(c impl.StewCopy) bool { return c.Service == of.Name })
		at := 0
		for at < len(s.Copies) && s.Copies[at].Service < of.Name {
			at++
		}
		for i := range many {
			c := impl.StewCopy{Service: of.Name, Number: first + i, Version: 1, Image: of.Image, State: impl.StewFailed, Berth: "b1"}
			turn(i, &c)
			s.Copies = slices.Insert(s.Copies, at+i, c)
		}
		of.Next = max(of.Next, first+many)
	})
}

func asItStands(int, *impl.StewCopy) {}

// hallEndsForm is the form of an act that ends these.
func hallEndsForm(head string, ends texts) string {
	return head + strings.Join(ends, ",") + " *"
}

// The sizes are counted out here: "act 30 cron 22 0 * " and " *" are 21 bytes, an end of one digit takes 4 with its comma, one of two takes 5.
func TestHallActsTooLong(t *testing.T) {
	ends := func(many, late int) texts {
		var list texts
		for i := range many {
			version := ":1"
			if i < late {
				version = ":10"
			}
			list = append(list, strconv.Itoa(i+1)+version)
		}
		return list
	}
	late := func(many int) func(place int, c *impl.StewCopy) {
		return func(place int, c *impl.StewCopy) {
			if place < many {
				c.Version = 10
			}
		}
	}
	for _, c := range []struct{ there, late, told, size int }{
		{0, 0, 0, 0}, {1, 0, 1, 24}, {1, 1, 1, 25}, {2, 0, 2, 28}, {28, 0, 28, 151},
		{29, 0, 29, 156}, {30, 0, 29, 156}, {31, 0, 29, 156}, {150, 0, 29, 156}, {190, 0, 29, 156},
		{29, 4, 29, 160}, {30, 4, 29, 160}, {190, 4, 29, 160},
		{29, 5, 28, 156}, {28, 5, 28, 156}, {190, 5, 28, 156}, {190, 9, 28, 160}, {28, 9, 28, 160}, {28, 10, 27, 156},
	} {
		what := strconv.Itoa(c.there) + " copies, " + strconv.Itoa(c.late) + " of them late"
		b := hallTurned(hasCopies(hallCronService, c.there, 1, late(c.late)))
		form := hallEndsForm("act 30 cron 22 0 * ", ends(c.told, c.late))
		if c.there == 0 {
			form = "act 30 cron 22 0 * * drop"
		} else if len(form) != c.size {
			t.Errorf("%s: %q has not %d bytes", what, form, c.size)
		}
		checkActs(t, what, hallHouse(), b, impl.StewSweeper, form)
		// The mender ends those that failed, whether their service is Gone or not.
		if c.there > 0 {
			checkActs(t, what, hallHouse(), b, impl.StewMender, "act 30 api 21 0 * 4:5 *", form)
			e, _ := impl.HallRead(form)
			if next, said := impl.HallDo(hallHouse(), b, e); said.Code != 0 || impl.StewCountOf(next.Stew, "cron").Ending != c.told {
				t.Errorf("%s: told %+v", what, said)
			}
		}
	}
}

// Many counts of copies, with Numbers and versions of all sizes: what is told fits, and one end more would not.
func TestHallActsLongest(t *testing.T) {
	t.Parallel()
	h := hallHouse()
	sizes := map[int]int{}
	for _, first := range []int{1, 95, 99990, 999800} {
		for _, now := range []int{30, 1000000} {
			for many := 0; many <= 190; many += 1 + many/60*30 {
				turn := func(place int, c *impl.StewCopy) { c.Version = []int{1, 25, now}[place%3] }
				b := hallTurned(stewAt(now), hasCopies(hallCronService, many, first, turn))
				list := impl.HallActs(h, b, impl.StewSweeper)
				if !same(list, hallActsBy(h, b, impl.StewSweeper)) || len(list) != 1 {
					t.Fatalf("%d copies from %d: %+v", many, first, list)
				}
				form, told := impl.HallForm(list[0]), len(list[0].Act.Ends)
				if form == "" || told > many || many > 0 && told == 0 {
					t.Fatalf("%d copies from %d: %q", many, first, form)
				}
				if told == many {
					continue
				}
				c := b.Stew.Copies[3+told]
				longer := len(form) + len(","+strconv.Itoa(c.Number)+":"+strconv.Itoa(c.Version))
				if longer <= 160 {
					t.Fatalf("%d copies from %d: %q could end one more", many, first, form)
				}
				sizes[len(form)]++
				sizes[longer]++
			}
		}
	}
	if sizes[160] == 0 || sizes[161] == 0 {
		t.Errorf("no form at the edge: %v", sizes)
	}
}

// The longest act of one end, and of none, that there can be: neither is too long.
func TestHallActsShort(t *testing.T) {
	h := hallLongHouse()
	name := letters(16)
	b := impl.HallFirst(h)
	b.Gate.Now = 2
	b.Gate.Objects = []impl.GateObject{hallObject(name, name, 2, "1000,10,10,10,1000000,", "fleet")}
	b.Stew = impl.StewBook{
		Now:      1000000,
		Services: []impl.StewService{{Name: name, Version: 1000000, Image: 1000, Down: 10, Over: 10, Next: 1000000, Per: 1000000, Most: 10, Load: 1000000, Cool: 3}},
		Copies:   []impl.StewCopy{{Service: name, Number: 999999, Version: 1000000, Image: 1000, State: impl.StewFailed, Berth: "b"}},
		Berths:   []impl.StewBerth{{Name: "b"}},
	}
	head := "act 1000000 " + name + " 1000000 0 "
	checkActs(t, "one end", h, b, impl.StewMender, head+"* 999999:1000000 *")
	checkActs(t, "one end, by the counter", h, b, impl.StewCounter, head+"* 999999:1000000 *")
	checkActs(t, "no end", h, b, impl.StewScaler, head+"1:0 * *")
	b.Gate.Objects[0].Ending, b.Stew.Services[0].Gone = true, true
	checkActs(t, "one end, gone", h, b, impl.StewSweeper, head+"* 999999:1000000 *")
	b.Stew.Copies = nil
	checkActs(t, "a drop", h, b, impl.StewSweeper, head+"* * drop")
}

// What one act cannot end, the next ones do.
func TestHallActsGoOn(t *testing.T) {
	b := hallTurned(hasCopies(hallCronService, 150, 1, asItStands))
	acts := 0
	for impl.StewCountOf(b.Stew, "cron").Live > 0 {
		live := impl.StewCountOf(b.Stew, "cron").Live
		next, said := impl.HallDo(hallHouse(), b, impl.HallActs(hallHouse(), b, impl.StewSweeper)[0])
		if said.Code != 0 || impl.StewCountOf(next.Stew, "cron").Live >= live {
			t.Fatalf("%d live: %+v", live, said)
		}
		b, acts = next, acts+1
	}
	// These are 1 to 29, 30 to 57, 58 to 85, 86 to 110, 111 to 133, and the rest.
	if acts != 6 {
		t.Errorf("%d acts", acts)
	}
}
