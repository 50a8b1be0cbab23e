package tests

import (
	"math"
	"slices"
	"strconv"
	"testing"

	"loop.example/wharfdesk/impl"
)

type house = impl.HallHouse

// hallHouse is ok.
func hallHouse() house {
	return house{
		Teams: teamList{{Name: "dev"}, {Name: "lab", Over: "dev"}, {Name: "ops"}},
		Grants: []impl.GateGrant{
			{Number: 1, To: "ann", Rule: impl.GateRule{Verbs: []int{1, 2, 3, 4, 5}}},
			{Number: 2, To: "bob", Rule: impl.GateRule{Verbs: []int{1, 2}, Kind: "service", Team: "lab", Prefix: "w-"}},
			{Number: 3, To: "ann", Rule: impl.GateRule{Verbs: []int{5}, Team: "ops"}},
		},
	}
}

func hallGrants(n int) []impl.GateGrant {
	var list []impl.GateGrant
	for i := range n {
		list = append(list, impl.GateGrant{Number: i + 1, To: "p-" + strconv.Itoa(i), Rule: impl.GateRule{Verbs: []int{1 + i%5}}})
	}
	return list
}

// hallLawOf is the law as the document tells it.
func hallLawOf(teams teamList) impl.GateLaw {
	return impl.GateLaw{
		Teams: teams,
		Shapes: []impl.GateShape{{Kind: "service", Fields: []impl.GateField{
			{Name: "image", Kind: 1, Least: 1, Most: 1000, Must: true},
			{Name: "most", Kind: 1, Least: 0, Most: 10, Must: true, Weighs: "copies"},
			{Name: "down", Kind: 1, Least: 0, Most: 10, Default: "0"},
			{Name: "over", Kind: 1, Least: 1, Most: 10, Default: "1", Weighs: "copies"},
			{Name: "per", Kind: 1, Least: 1, Most: 1000000},
			{Name: "of", Kind: 4, To: "service", Role: 3},
		}}},
		Mends: []impl.GateMend{{Kind: "service", Field: "down", When: "most", Is: "1", Put: "0"}},
	}
}

// checkHouse says of a house what the three functions answer, ok being whether it is so.
func checkHouse(t *testing.T, what string, h house, ok bool) {
	t.Helper()
	h = spread(h)
	before := whole(h)
	if got := impl.HallHouseOk(h); got != ok {
		t.Errorf("%s: it is ok: %v", what, got)
	}
	law := impl.HallLaw(h)
	if !same(law, hallLawOf(h.Teams)) || impl.GateLawOk(law) != impl.GateTeamsOk(h.Teams) {
		t.Errorf("%s: the law: %+v", what, law)
	}
	want := impl.HallBook{}
	if ok {
		want.Gate = impl.GateBook{Now: len(h.Grants), Given: len(h.Grants), Grants: h.Grants}
	}
	first := impl.HallFirst(h)
	if !same(first, want) || ok && !impl.GateBookOk(law, first.Gate) || !impl.StewValid(first.Stew) {
		t.Errorf("%s: the first books: %+v", what, first)
	}
	if !same(whole(h), before) {
		t.Errorf("%s: the house is changed", what)
	}
	newMemory(t, what, law, h, impl.HallLaw(h))
	newMemory(t, what, first, h, impl.HallFirst(h))
}

func TestHallHouses(t *testing.T) {
	teams := func(list ...impl.GateTeam) func(h *house) { return func(h *house) { h.Teams = list } }
	grants := func(n int) func(h *house) { return func(h *house) { h.Grants = hallGrants(n) } }
	grant := func(place int, turn func(g *impl.GateGrant)) func(h *house) {
		return func(h *house) { turn(&h.Grants[place]) }
	}
	rule := func(turn func(r *impl.GateRule)) func(h *house) {
		return grant(1, func(g *impl.GateGrant) { turn(&g.Rule) })
	}
	var many teamList
	for i := range 13 {
		many = append(many, impl.GateTeam{Name: string(rune('a' + i))})
	}
	deep := teamList{{Name: "a"}, {Name: "b", Over: "a"}, {Name: "c", Over: "b"}, {Name: "d", Over: "c"}, {Name: "e", Over: "d"}, {Name: "f", Over: "e"}}
	for _, c := range []struct {
		what string
		ok   bool
		turn func(h *house)
	}{
		{"a house", true, func(h *house) {}},
		{"nothing", true, func(h *house) { *h = house{} }},
		{"empty lists", true, func(h *house) { *h = house{Teams: teamList{}, Grants: []impl.GateGrant{}} }},
		{"no team", true, teams()},
		{"as many teams as may be", true, teams(many[:12]...)},
		{"one team more", false, teams(many...)},
		{"teams that are not in order", false, teams(impl.GateTeam{Name: "lab"}, impl.GateTeam{Name: "dev"})},
		{"a team twice", false, teams(impl.GateTeam{Name: "dev"}, impl.GateTeam{Name: "dev"})},
		{"a team that is no name", false, teams(impl.GateTeam{Name: "Dev"})},
		{"a team under one that is not there", false, teams(impl.GateTeam{Name: "dev", Over: "lab"})},
		{"as deep as may be", true, teams(deep[:5]...)},
		{"one deeper", false, teams(deep...)},
		{"no grant", true, grants(0)},
		{"one grant", true, grants(1)},
		{"as many grants as may be", true, grants(24)},
		{"one grant more", false, grants(25)},
		{"many grants more", false, grants(100)},
		{"Numbers that begin at 0", false, func(h *house) { h.Grants[0].Number, h.Grants[1].Number, h.Grants[2].Number = 0, 1, 2 }},
		{"Numbers that begin at 2", false, func(h *house) { h.Grants = h.Grants[1:] }},
		{"Numbers that leave one out", false, func(h *house) { h.Grants = slices.Delete(h.Grants, 1, 2) }},
		{"a Number twice", false, grant(2, func(g *impl.GateGrant) { g.Number = 2 })},
		{"Numbers turned around", false, func(h *house) { slices.Reverse(h.Grants) }},
		{"a Number below 0", false, grant(0, func(g *impl.GateGrant) { g.Number = -1 })},
		{"the greatest Number", false, grant(2, func(g *impl.GateGrant) { g.Number = math.MaxInt })},
		{"To of the most bytes", true, grant(2, func(g *impl.GateGrant) { g.To = letters(16) })},
		{"To of a byte more", false, grant(2, func(g *impl.GateGrant) { g.To = letters(17) })},
		{"To nobody", false, grant(1, func(g *impl.GateGrant) { g.To = "" })},
		{"To somebody with a capital", false, grant(0, func(g *impl.GateGrant) { g.To = "Ann" })},
		{"By somebody", false, grant(2, func(g *impl.GateGrant) { g.By = "ann" })},
		{"no verb", false, rule(func(r *impl.GateRule) { r.Verbs = nil })},
		{"verbs that are not in order", false, rule(func(r *impl.GateRule) { r.Verbs = []int{2, 1} })},
		{"a verb twice", false, rule(func(r *impl.GateRule) { r.Verbs = []int{2, 2} })},
		{"the verb 0", false, rule(func(r *impl.GateRule) { r.Verbs = []int{0, 1} })},
		{"the verb to take", false, rule(func(r *impl.GateRule) { r.Verbs = []int{5, 6} })},
		{"a Kind that is no name", false, rule(func(r *impl.GateRule) { r.Kind = "*" })},
		{"a Kind that no shape has", true, rule(func(r *impl.GateRule) { r.Kind = "berth" })},
		{"a Team that is no name", false, rule(func(r *impl.GateRule) { r.Team = "L" })},
		{"a Team that there is not", true, rule(func(r *impl.GateRule) { r.Team = "ghost" })},
		{"a Prefix of the most bytes", true, rule(func(r *impl.GateRule) { r.Prefix = letters(16) })},
		{"a Prefix of a byte more", false, rule(func(r *impl.GateRule) { r.Prefix = letters(17) })},
		{"a Prefix of other bytes", false, rule(func(r *impl.GateRule) { r.Prefix = "w_" })},
	} {
		h := hallHouse()
		c.turn(&h)
		checkHouse(t, c.what, h, c.ok)
	}
}

// hallHouseIsOk is the document's sentence on houses.
func hallHouseIsOk(h house) bool {
	place := 0
	return impl.GateTeamsOk(h.Teams) && len(h.Grants) <= 24 && all(h.Grants, func(g impl.GateGrant) bool {
		place++
		// A rule that is ok is covered by itself.
		return g.Number == place && names.MatchString(g.To) && g.By == "" && impl.GateCovers(nil, ruleList{g.Rule}, g.Rule)
	})
}

// hallAnyHouse is ok about every second time.
func (d *dice) hallAnyHouse() house {
	h := house{Teams: d.teams()}
	for i := range d.roll(5) {
		h.Grants = append(h.Grants, impl.GateGrant{Number: i + 1, To: pick(d, "ann", "bob"), Rule: d.rule()})
	}
	if len(h.Grants) == 0 || d.roll(2) == 0 {
		return h
	}
	g := &h.Grants[d.roll(len(h.Grants))]
	switch d.roll(6) {
	case 0:
		g.Number = d.roll(6)
	case 1:
		g.To = pick(d, "", "A", "carl", letters(17))
	case 2:
		g.By = pick(d, "", "ann", "*")
	case 3:
		g.Rule.Verbs = append(g.Rule.Verbs, d.roll(8))
	case 4:
		g.Rule.Kind = pick(d, "", "a b", letters(17))
	default:
		swapTwo(d, h.Grants)
	}
	return h
}

func TestHallMadeUpHouses(t *testing.T) {
	d := dice(29)
	count := map[bool]int{}
	for range 2000 {
		h := d.hallAnyHouse()
		ok := hallHouseIsOk(h)
		count[ok]++
		checkHouse(t, "a made-up house", h, ok)
		if t.Failed() {
			t.Fatalf("%+v", h)
		}
	}
	if count[true] < 400 || count[false] < 400 {
		t.Errorf("%v", count)
	}
}

// What the law makes of what is asked for, and what that weighs.
func TestHallLawAtWork(t *testing.T) {
	law := impl.HallLaw(hallHouse())
	for _, c := range []struct {
		values, shaped []string
		code, place    int
		copies         int
	}{
		{[]string{"1", "1", "3", "", "", ""}, []string{"1", "1", "0", "1", "", ""}, 0, 0, 2},
		{[]string{"1000", "10", "10", "10", "1000000", "web"}, []string{"1000", "10", "10", "10", "1000000", "web"}, 0, 0, 20},
		{[]string{"7", "0", "", "2", "1", ""}, []string{"7", "0", "0", "2", "1", ""}, 0, 0, 2},
		{[]string{"", "2", "", "", "", ""}, []string{"", "2", "0", "1", "", ""}, 2, 0, 3},
		{[]string{"3", "", "", "", "", ""}, []string{"3", "", "0", "1", "", ""}, 2, 1, 1},
		{[]string{"0", "2", "", "", "", ""}, []string{"0", "2", "0", "1", "", ""}, 3, 0, 3},
		{[]string{"1001", "2", "", "", "", ""}, []string{"1001", "2", "0", "1", "", ""}, 3, 0, 3},
		{[]string{"1", "11", "", "", "", ""}, []string{"1", "11", "0", "1", "", ""}, 3, 1, 12},
		{[]string{"1", "2", "11", "", "", ""}, []string{"1", "2", "11", "1", "", ""}, 3, 2, 3},
		{[]string{"1", "2", "", "0", "", ""}, []string{"1", "2", "0", "0", "", ""}, 3, 3, 2},
		{[]string{"1", "2", "", "11", "", ""}, []string{"1", "2", "0", "11", "", ""}, 3, 3, 13},
		{[]string{"1", "2", "", "", "0", ""}, []string{"1", "2", "0", "1", "0", ""}, 3, 4, 3},
		{[]string{"1", "2", "", "", "1000001", ""}, []string{"1", "2", "0", "1", "1000001", ""}, 3, 4, 3},
		{[]string{"1", "2", "", "", "", "Web"}, []string{"1", "2", "0", "1", "", "Web"}, 3, 5, 3},
	} {
		o := impl.GateObject{Kind: "service", Name: "db", Team: "dev", Values: c.values}
		shaped := impl.GateShaped(law.Shapes, law.Mends, o)
		code, place := impl.GateCheck(law.Shapes, shaped)
		if !slices.Equal(shaped.Values, c.shaped) || code != c.code || place != c.place {
			t.Errorf("%q: %q, %d, %d", c.values, shaped.Values, code, place)
		}
		if got := impl.GateWeighs(law, shaped, "copies"); got != c.copies {
			t.Errorf("%q: it weighs %d", c.values, got)
		}
	}
}
