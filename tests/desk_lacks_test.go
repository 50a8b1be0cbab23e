package tests

import (
	"slices"
	"strconv"
	"testing"

	"loop.example/wharfdesk/impl"
)

// deskLacksBy is the document's sentence on what a door's purses lack.
func deskLacksBy(h house, b twoBooks, door string, a ask) []int {
	law := hallLawOf(h.Teams)
	if !hallIsOk(h, b) || !askIsOk(law, a) {
		return nil
	}
	heard := hearingOf(law, b.Gate, door, a)
	list := make([]int, len(b.Gate.Ledgers))
	for i, ledger := range b.Gate.Ledgers {
		if heard.asks(impl.GateMake) && heard.at >= 0 || heard.asks(impl.GateChange) && heard.at < 0 {
			continue
		}
		lack := heard.more(ledger.Team, ledger.Resource)
		for _, p := range b.Gate.Purses {
			if p.Door == door && p.Team == ledger.Team && p.Resource == ledger.Resource {
				lack -= p.Amount
			}
		}
		list[i] = max(0, lack)
	}
	return list
}

// checkLacks says what a door's purses lack, that it is new, and that no argument is changed.
func checkLacks(t *testing.T, what string, h house, b twoBooks, door string, a ask, want ...int) {
	t.Helper()
	h, b, a = spread(h), spread(b), spread(a)
	houseWas, booksWere, askWas := whole(h), whole(b), whole(a)
	got := impl.DeskLacks(h, b, door, a)
	if !slices.Equal(got, want) {
		t.Errorf("%s: %q lacks %v, not %v", what, door, got, want)
	}
	if read := deskLacksBy(h, b, door, a); !slices.Equal(read, want) {
		t.Errorf("%s: it is read that %q lacks %v, not %v", what, door, read, want)
	}
	if !same(whole(h), houseWas) || !same(whole(b), booksWere) || !same(whole(a), askWas) {
		t.Errorf("%s: an argument is changed", what)
	}
	newMemory(t, what, got, h, b, a, impl.DeskLacks(h, b, door, a))
}

// deskLacksCase is an ask by hallBooks as turned, whose ledgers are of copies of dev, services of lab, and copies of ops: what d1, d2 and d3 lack.
type deskLacksCase struct {
	what string
	ask  ask
	d1   []int
	d2   []int
	d3   []int
	with []booksTurn
}

func checkLacksCases(t *testing.T, list []deskLacksCase) {
	t.Helper()
	for _, c := range list {
		b := hallTurned(c.with...)
		if !hallIsOk(hallHouse(), b) {
			t.Errorf("%s: the books are not ok", c.what)
		}
		for _, who := range []string{"ann", "bob", "eve"} {
			a := by(who, c.ask)
			checkLacks(t, c.what, hallHouse(), b, "d1", a, c.d1...)
			checkLacks(t, c.what, hallHouse(), b, "d2", a, c.d2...)
			for _, door := range []string{"d3", "d", "d11", "", "D1", "d1 ", letters(17)} {
				checkLacks(t, c.what, hallHouse(), b, door, a, c.d3...)
			}
		}
	}
}

func TestDeskLacksToMake(t *testing.T) {
	fleet := texts{"fleet"}
	none := []int{0, 0, 0}
	checkLacksCases(t, []deskLacksCase{
		{"in dev, less than d1 has", asksMake("new", "dev", fleet, "1", "2", "", "1", "", ""), none, []int{1, 0, 0}, []int{3, 0, 0}, nil},
		{"in dev, as much as d1 has", asksMake("new", "dev", fleet, "1", "3", "", "1", "", ""), none, []int{2, 0, 0}, []int{4, 0, 0}, nil},
		{"in dev, one more", asksMake("new", "dev", fleet, "1", "4", "", "1", "", ""), []int{1, 0, 0}, []int{3, 0, 0}, []int{5, 0, 0}, nil},
		{"in dev, as much as can be", asksMake("new", "dev", fleet, "1", "10", "", "10", "", ""), []int{16, 0, 0}, []int{18, 0, 0}, []int{20, 0, 0}, nil},
		{"in dev, as little as can be", asksMake("new", "dev", fleet, "1", "0", "", "1", "", ""), none, none, []int{1, 0, 0}, nil},
		{"in lab, under dev", asksMake("new", "lab", fleet, "1", "2", "", "1", "", ""), []int{0, 1, 0}, []int{1, 1, 0}, []int{3, 1, 0}, nil},
		{"in ops", asksMake("new", "ops", fleet, "1", "3", "", "2", "", ""), []int{0, 0, 2}, []int{0, 0, 5}, []int{0, 0, 5}, nil},
		{"an over by default", asksMake("new", "ops", fleet, "1", "3", "", "", "", ""), []int{0, 0, 1}, []int{0, 0, 4}, []int{0, 0, 4}, nil},
		{"values that are none", asksMake("new", "dev", fleet, "x", "9999999", "?", "a", "", "ghost"), []int{9999995, 0, 0}, []int{9999997, 0, 0}, []int{9999999, 0, 0}, nil},
		{"no most", asksMake("new", "dev", fleet, "", "", "", "", "", ""), none, none, []int{1, 0, 0}, nil},
		{"without the hold", asksMake("new", "dev", nil, "1", "2", "", "1", "", ""), none, []int{1, 0, 0}, []int{3, 0, 0}, nil},
		{"what is there", asksMake("api", "dev", fleet, "1", "10", "", "10", "", ""), none, none, none, nil},
		{"what is there, in another team", asksMake("web", "ops", fleet, "1", "10", "", "10", "", ""), none, none, none, nil},
		{"what is Ending", asksMake("old", "dev", fleet, "1", "10", "", "10", "", ""), none, none, none, nil},
		{"in a full book", asksMake("new", "dev", fleet, "1", "4", "", "1", "", ""), []int{1, 0, 0}, []int{3, 0, 0}, []int{5, 0, 0}, []booksTurn{hallCrowd(8), hallHeap(40)}},
		{"no ledgers", asksMake("new", "dev", fleet, "1", "4", "", "1", "", ""), nil, nil, nil, []booksTurn{ofGate(func(g *impl.GateBook) { g.Ledgers, g.Purses = nil, nil })}},
		{"no purses", asksMake("new", "lab", fleet, "1", "4", "", "1", "", ""), []int{5, 1, 0}, []int{5, 1, 0}, []int{5, 1, 0}, []booksTurn{ofGate(func(g *impl.GateBook) { g.Purses = nil }), hallAllFree}},
	})
}

// hallAllFree gives back what no purse has any more.
func hallAllFree(b *twoBooks) {
	settle(hallLawOf(hallHouse().Teams), &b.Gate)
}

func TestDeskLacksToChange(t *testing.T) {
	none := []int{0, 0, 0}
	checkLacksCases(t, []deskLacksCase{
		{"as it is", asksChange("api", 7, "5", "3", "1", "2", "", ""), none, none, none, nil},
		{"another image", asksChange("api", 7, "6", "3", "1", "2", "", ""), none, none, none, nil},
		{"more, as much as d2 has", asksChange("api", 7, "5", "5", "1", "2", "", ""), none, none, []int{2, 0, 0}, nil},
		{"more, as much as d1 has", asksChange("api", 7, "5", "7", "1", "2", "", ""), none, []int{2, 0, 0}, []int{4, 0, 0}, nil},
		{"more than d1 has", asksChange("api", 7, "5", "8", "1", "2", "", ""), []int{1, 0, 0}, []int{3, 0, 0}, []int{5, 0, 0}, nil},
		{"more by the over", asksChange("api", 7, "5", "3", "1", "9", "", ""), []int{3, 0, 0}, []int{5, 0, 0}, []int{7, 0, 0}, nil},
		{"more of one, less of another", asksChange("api", 7, "5", "6", "1", "1", "", ""), none, none, []int{2, 0, 0}, nil},
		{"as much", asksChange("api", 7, "5", "2", "1", "3", "", ""), none, none, none, nil},
		{"less", asksChange("api", 7, "5", "2", "1", "1", "", ""), none, none, none, nil},
		{"less by a default", asksChange("api", 7, "5", "3", "1", "", "", ""), none, none, none, nil},
		{"less by what is no value", asksChange("api", 7, "5", "-", "1", "2", "", ""), none, none, none, nil},
		{"more by what does not fit", asksChange("api", 7, "0", "11", "99", "2", "0", "ghost"), []int{4, 0, 0}, []int{6, 0, 0}, []int{8, 0, 0}, nil},
		{"in lab", asksChange("db", 8, "2", "9", "0", "1", "10", "api"), []int{1, 0, 0}, []int{3, 0, 0}, []int{5, 0, 0}, nil},
		{"in ops", asksChange("log", 10, "3", "6", "0", "1", "", "cron"), []int{0, 0, 1}, []int{0, 0, 4}, []int{0, 0, 4}, nil},
		{"another version seen", asksChange("api", 99, "5", "8", "1", "2", "", ""), []int{1, 0, 0}, []int{3, 0, 0}, []int{5, 0, 0}, nil},
		{"no version seen", asksChange("api", 0, "5", "8", "1", "2", "", ""), []int{1, 0, 0}, []int{3, 0, 0}, []int{5, 0, 0}, nil},
		{"one that is Ending", asksChange("old", 11, "1", "7", "0", "1", "", ""), []int{1, 0, 0}, []int{3, 0, 0}, []int{5, 0, 0}, nil},
		{"what is not there", asksChange("new", 0, "5", "8", "1", "2", "", ""), none, none, none, nil},
		{"what is not there any more", asksChange("ap", 7, "5", "8", "1", "2", "", ""), none, none, none, nil},
	})
}

func TestDeskLacksOfOtherVerbs(t *testing.T) {
	none := []int{0, 0, 0}
	for what, a := range map[string]ask{
		"to end":                    asksEnd("api", 7),
		"to end what is not there":  asksEnd("new", 0),
		"to let go":                 asksLetGo("api", "audit"),
		"to let go of the hall's":   asksLetGo("api", "fleet"),
		"to give":                   asksGive("bob", gateRule{Verbs: []int{1}}),
		"to take":                   asksTake(4),
		"to take what is not there": asksTake(99),
	} {
		checkLacksCases(t, []deskLacksCase{{what, a, none, none, none, nil}})
	}
}

// Ledgers of the team, of those over it, and of others; of several resources; and purses of each.
func TestDeskLacksLedgers(t *testing.T) {
	h := house{Teams: teamList{{Name: "a"}, {Name: "b", Over: "a"}, {Name: "c", Over: "b"}, {Name: "d", Over: "a"}}}
	b := twoBooks{Gate: impl.GateBook{Now: 5}}
	for _, team := range []string{"a", "b", "c", "d"} {
		for _, resource := range []string{"copies", "gold", "service"} {
			if team == "d" && resource != "copies" {
				continue
			}
			b.Gate.Ledgers = append(b.Gate.Ledgers, impl.GateLedger{Team: team, Resource: resource, Most: 100})
		}
	}
	all := map[string][]int{
		"a": {5, 0, 1, 0, 0, 0, 0, 0, 0, 0},
		"b": {5, 0, 1, 5, 0, 1, 0, 0, 0, 0},
		"c": {5, 0, 1, 5, 0, 1, 5, 0, 1, 0},
		"d": {5, 0, 1, 0, 0, 0, 0, 0, 0, 5},
	}
	law := hallLawOf(h.Teams)
	for team, needed := range all {
		for place, ledger := range b.Gate.Ledgers {
			for _, amount := range []int{0, 1, 4, 5, 6, 90} {
				b := spread(b)
				for _, door := range []string{"d0", "d2"} {
					b.Gate.Purses = append(b.Gate.Purses, impl.GatePurse{Door: door, Team: ledger.Team, Resource: ledger.Resource, Amount: 3})
				}
				if amount > 0 {
					b.Gate.Purses = append(b.Gate.Purses, impl.GatePurse{Door: "d1", Team: ledger.Team, Resource: ledger.Resource, Amount: amount})
				}
				inOrder(&b.Gate)
				settle(law, &b.Gate)
				want := slices.Clone(needed)
				want[place] = max(0, want[place]-amount)
				a := by("ann", asksMake("new", team, texts{"fleet"}, "1", "4", "", "1", "", ""))
				checkLacks(t, team+" through d1, which has "+strconv.Itoa(amount), h, b, "d1", a, want...)
				checkLacks(t, team+" through d3", h, b, "d3", a, needed...)
			}
		}
	}
}

func TestDeskLacksNotOk(t *testing.T) {
	h, makes := hallHouse(), by("ann", asksMake("new", "dev", texts{"fleet"}, "1", "4", "", "1", "", ""))
	for what, b := range deskBadBooks() {
		checkLacks(t, what, h, b, "d1", makes)
	}
	for what, h := range hallBadHouses() {
		checkLacks(t, what, h, hallBooks(), "d1", makes)
	}
	checkLacks(t, "another house", house{}, hallBooks(), "d1", makes)
	for what, turn := range map[string]func(a *ask){
		"no ask":              func(a *ask) { *a = ask{} },
		"a Who that is none":  func(a *ask) { a.Who = "Ann" },
		"no Verb":             func(a *ask) { a.Verb = 0 },
		"a Verb too great":    func(a *ask) { a.Verb = 7 },
		"another Kind":        func(a *ask) { a.Kind = "berth" },
		"a Name that is none": func(a *ask) { a.Name = "" },
		"another Team":        func(a *ask) { a.Team = "ghost" },
		"five Values":         func(a *ask) { a.Values = a.Values[:5] },
		"Holds in no order":   func(a *ask) { a.Holds = texts{"z", "a"} },
		"a Seen":              func(a *ask) { a.Seen = 1 },
		"to change with Team": func(a *ask) { a.Verb, a.Name, a.Holds = 2, "api", nil },
		"to end with Values":  func(a *ask) { a.Verb, a.Name, a.Holds, a.Team = 3, "api", nil, "" },
	} {
		a := spread(makes)
		turn(&a)
		checkLacks(t, what, h, hallBooks(), "d1", a)
	}
}
