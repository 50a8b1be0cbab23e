package tests

import (
	"slices"
	"strconv"
	"testing"

	"loop.example/wharfdesk/impl"
)

// hallServiceOf is the document's sentence on the service that an object asks for.
func hallServiceOf(o impl.GateObject, old impl.StewService) impl.StewService {
	if len(o.Values) != 6 {
		return impl.StewService{}
	}
	numbers := map[string]int{}
	for place, field := range []string{"image", "most", "down", "over", "per"} {
		if decimals.MatchString(o.Values[place]) {
			numbers[field], _ = strconv.Atoi(o.Values[place])
		}
	}
	asked := impl.StewService{Name: o.Name, Gone: o.Ending, Image: numbers["image"], Want: numbers["most"], Down: numbers["down"], Over: numbers["over"]}
	if numbers["per"] == 0 {
		return asked
	}
	asked.Per, asked.Most, asked.Load, asked.Want = numbers["per"], numbers["most"], old.Load, slices.Min([]int{old.Want, numbers["most"]})
	return asked
}

func checkService(t *testing.T, what string, o impl.GateObject, old, want impl.StewService) {
	t.Helper()
	o = spread(o)
	before := whole(o)
	if got := impl.HallService(o, old); got != want {
		t.Errorf("%s: %+v, not %+v", what, got, want)
	}
	if !same(whole(o), before) {
		t.Errorf("%s: the object is changed", what)
	}
}

func TestHallServices(t *testing.T) {
	old := impl.StewService{Name: "old", Version: 9, Gone: true, Image: 8, Want: 5, Down: 7, Over: 6, Next: 12, Per: 11, Least: 1, Most: 3, Load: 40, Cool: 2}
	service := impl.StewService{Name: "web", Image: 3, Want: 4, Down: 1, Over: 2}
	follows := impl.StewService{Name: "web", Image: 3, Want: 4, Down: 1, Over: 2, Per: 10, Most: 4, Load: 40}
	values := func(list ...string) impl.GateObject { return impl.GateObject{Name: "web", Values: list} }
	turned := func(s impl.StewService, turn func(s *impl.StewService)) impl.StewService {
		turn(&s)
		return s
	}
	for _, c := range []struct {
		what   string
		object impl.GateObject
		want   impl.StewService
	}{
		{"nothing", impl.GateObject{}, impl.StewService{}},
		{"no values", values(), impl.StewService{}},
		{"five values", values("3", "4", "1", "2", "10"), impl.StewService{}},
		{"seven values", values("3", "4", "1", "2", "10", "", ""), impl.StewService{}},
		{"six values, none set", values("", "", "", "", "", ""), impl.StewService{Name: "web"}},
		{"no load", values("3", "4", "1", "2", "", ""), service},
		{"a load", values("3", "4", "1", "2", "10", ""), follows},
		{"a per of 0", values("3", "4", "1", "2", "0", ""), service},
		{"a per that is no decimal", values("3", "4", "1", "2", "ten", ""), service},
		{"a per with a needless zero", values("3", "4", "1", "2", "010", ""), service},
		{"a per of eight digits", values("3", "4", "1", "2", "10000000", ""), service},
		{"a per of seven digits", values("3", "4", "1", "2", "9999999", ""), turned(follows, func(s *impl.StewService) { s.Per = 9999999 })},
		{"the least per", values("3", "4", "1", "2", "1", ""), turned(follows, func(s *impl.StewService) { s.Per = 1 })},
		{"old's Want is below", values("3", "6", "1", "2", "10", ""), turned(follows, func(s *impl.StewService) { s.Want, s.Most = 5, 6 })},
		{"old's Want is the same", values("3", "5", "1", "2", "10", ""), turned(follows, func(s *impl.StewService) { s.Want, s.Most = 5, 5 })},
		{"a most of 0", values("3", "0", "1", "2", "10", ""), turned(follows, func(s *impl.StewService) { s.Want, s.Most = 0, 0 })},
		{"a most that is no decimal", values("3", "-4", "1", "2", "10", ""), turned(follows, func(s *impl.StewService) { s.Want, s.Most = 0, 0 })},
		{"a most of 0, and no load", values("3", "0", "1", "2", "", ""), turned(service, func(s *impl.StewService) { s.Want = 0 })},
		{"needless zeros", values("03", "04", "00", "02", "", ""), impl.StewService{Name: "web"}},
		{"zeros", values("0", "0", "0", "0", "0", ""), impl.StewService{Name: "web"}},
		{"seven digits", values("9999999", "9999999", "9999999", "9999999", "", ""), impl.StewService{Name: "web", Image: 9999999, Want: 9999999, Down: 9999999, Over: 9999999}},
		{"eight digits", values("10000000", "10000000", "10000000", "10000000", "", ""), impl.StewService{Name: "web"}},
		{"many digits", values("99999999999999999999999", "4", "1", "2", "", ""), turned(service, func(s *impl.StewService) { s.Image = 0 })},
		{"no decimals", values("a", "4x", "+1", "2 ", "1.5", ""), impl.StewService{Name: "web"}},
		{"other bytes", values("\x00", "4\n", "\xff1", "٣", "", ""), impl.StewService{Name: "web"}},
		{"of is not looked at", values("3", "4", "1", "2", "", "77"), service},
		{"nor is what is no name", impl.GateObject{Name: "A b", Values: texts{"3", "4", "1", "2", "", "*"}}, turned(service, func(s *impl.StewService) { s.Name = "A b" })},
		{"no Name", impl.GateObject{Values: texts{"3", "4", "1", "2", "", ""}}, turned(service, func(s *impl.StewService) { s.Name = "" })},
		{"Ending", impl.GateObject{Name: "web", Ending: true, Values: texts{"3", "4", "1", "2", "", ""}}, turned(service, func(s *impl.StewService) { s.Gone = true })},
		{"Ending, with a load", impl.GateObject{Name: "web", Ending: true, Values: texts{"3", "4", "1", "2", "10", ""}}, turned(follows, func(s *impl.StewService) { s.Gone = true })},
		{"all else", impl.GateObject{Kind: "berth", Name: "web", Team: "dev", Holds: texts{"fleet", "a"}, Version: 77, Values: texts{"3", "4", "1", "2", "10", ""}}, follows},
	} {
		checkService(t, c.what, c.object, old, c.want)
		if got := hallServiceOf(c.object, old); got != c.want {
			t.Errorf("%s is read as %+v", c.what, got)
		}
	}
	checkService(t, "without an old one", values("3", "4", "1", "2", "10", ""), impl.StewService{}, turned(follows, func(s *impl.StewService) { s.Want, s.Load = 0, 0 }))
	checkService(t, "an old one below 0", values("3", "4", "1", "2", "10", ""), impl.StewService{Want: -3, Load: -7}, turned(follows, func(s *impl.StewService) { s.Want, s.Load = -3, -7 }))
}

// Of old, Want and Load alone are looked at, and only with a Per above 0.
func TestHallServiceLooksAtNothingElse(t *testing.T) {
	d := dice(31)
	for range 3000 {
		o := impl.GateObject{Kind: "service", Name: d.hallName(), Team: "dev", Ending: d.roll(2) == 0, Version: d.roll(9)}
		for range pick(&d, 5, 6, 6, 6, 6, 6, 7) {
			o.Values = append(o.Values, pick(&d, "", "0", "1", "2", "10", "01", "a", "9999999", "10000000"))
		}
		old := d.stewService(d.hallName(), 9)
		want := hallServiceOf(o, old)
		checkService(t, "made up", o, old, want)
		checkService(t, "of Want and Load alone", o, impl.StewService{Want: old.Want, Load: old.Load}, want)
		other := o
		other.Kind, other.Team, other.Holds, other.Version = "", "x", texts{"fleet"}, -1
		checkService(t, "of what is looked at alone", other, old, want)
		if t.Failed() {
			t.FailNow()
		}
	}
}
