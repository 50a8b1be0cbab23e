package tests

import (
	"slices"
	"strings"
	"testing"

	"loop.example/wharfdesk/impl"
)

// oversOf are the teams over a team, up to one more than there may be.
func oversOf(teams teamList, name string) []string {
	var list []string
	for len(list) <= impl.GateMaxDeep {
		at := slices.IndexFunc(teams, func(team impl.GateTeam) bool { return team.Name == name })
		if at < 0 || teams[at].Over == "" {
			break
		}
		name = teams[at].Over
		list = append(list, name)
	}
	return list
}

// standsUnder is the document's list of what stands under what.
func standsUnder(teams teamList, a, b string) bool {
	overs := oversOf(teams, a)
	return a == b || slices.Contains(overs[:min(len(overs), impl.GateMaxDeep)], b)
}

// teamsAreOk is for names that are names: no more than the order, the Overs and how deep they are.
func teamsAreOk(teams teamList) bool {
	var names []string
	for _, team := range teams {
		names = append(names, team.Name)
	}
	once := slices.Compact(slices.Sorted(slices.Values(names)))
	if !slices.Equal(names, once) || len(names) > impl.GateMaxTeams {
		return false
	}
	return !slices.ContainsFunc(teams, func(team impl.GateTeam) bool {
		return team.Over != "" && !slices.Contains(names, team.Over) || len(oversOf(teams, team.Name)) > impl.GateMaxDeep
	})
}

// coveredBy is the document's sentence on when rules cover a rule, all of them ok.
func coveredBy(teams teamList, rules ruleList, r impl.GateRule, verb int) bool {
	return slices.ContainsFunc(rules, func(q impl.GateRule) bool {
		switch {
		case !slices.Contains(q.Verbs, verb), q.Kind != "" && q.Kind != r.Kind, !strings.HasPrefix(r.Prefix, q.Prefix):
			return false
		case q.Team == "":
			return true
		}
		return r.Team != "" && standsUnder(teams, r.Team, q.Team)
	})
}

// teams are ok most of the time.
func (d *dice) teams() teamList {
	var list teamList
	var names []string
	for _, name := range []string{"a", "b", "c", "d", "e", "f", "t0", "t1"} {
		if d.roll(3) > 0 {
			names = append(names, name)
		}
	}
	for i, name := range names {
		over := ""
		switch {
		case d.roll(30) == 0:
			over = pick(d, append(names, "ghost")...)
		case i > 0 && d.roll(3) > 0:
			over = names[d.roll(i)]
		}
		list = append(list, impl.GateTeam{Name: name, Over: over})
	}
	if d.roll(2) == 0 {
		list = turnedAround(list)
	}
	return list
}

// turnedAround has the teams that stand in others ahead of those.
func turnedAround(teams teamList) teamList {
	list := make(teamList, len(teams))
	other := map[string]string{"": "", "ghost": "ghost"}
	for i, team := range teams {
		other[team.Name] = teams[len(teams)-1-i].Name
	}
	for i, team := range teams {
		list[len(teams)-1-i] = impl.GateTeam{Name: other[team.Name], Over: other[team.Over]}
	}
	return list
}

func (d *dice) verbs() []int {
	var list []int
	for verb := impl.GateMake; verb <= impl.GateGive; verb++ {
		if d.roll(2) == 0 {
			list = append(list, verb)
		}
	}
	if len(list) == 0 {
		return []int{1 + d.roll(5)}
	}
	return list
}

func (d *dice) rule() impl.GateRule {
	return impl.GateRule{
		Verbs:  d.verbs(),
		Kind:   pick(d, "", "", "k0", "k1", "job"),
		Team:   pick(d, "", "", "a", "b", "c", "d", "e", "t0", "t1", "ghost"),
		Prefix: pick(d, "", "", "x", "x-", "x-1", "y"),
	}
}

func (d *dice) rules(most int) ruleList {
	list := make(ruleList, d.roll(most+1))
	for i := range list {
		list[i] = d.rule()
	}
	return list
}

func (d *dice) act() impl.GateAct {
	return impl.GateAct{
		Verb: d.roll(8) - 1,
		Kind: pick(d, "", "k0", "k1", "k2", "job", "No kind"),
		Team: pick(d, "", "a", "b", "c", "d", "e", "f", "t0", "t1", "t2", "ghost", "No team"),
		Name: pick(d, "", "x", "x-", "x-1", "x-12", "y", "z", "No name"),
	}
}

// actOf is mostly one that the rule allows.
func (d *dice) actOf(teams teamList, r impl.GateRule) impl.GateAct {
	a := d.act()
	a.Verb = pick(d, r.Verbs...)
	a.Name = r.Prefix + a.Name
	if r.Kind != "" {
		a.Kind = r.Kind
	}
	if r.Team != "" {
		a.Team = r.Team
	}
	for _, team := range teams {
		if team.Over == a.Team && d.roll(2) == 0 {
			a.Team = team.Name
		}
	}
	return a
}

// narrower allows nothing that the rule does not.
func (d *dice) narrower(teams teamList, r impl.GateRule) impl.GateRule {
	r.Verbs = slices.Clone(r.Verbs)
	if len(r.Verbs) > 1 && d.roll(2) == 0 {
		at := d.roll(len(r.Verbs))
		r.Verbs = slices.Delete(r.Verbs, at, at+1)
	}
	if r.Kind == "" && d.roll(2) == 0 {
		r.Kind = pick(d, "k0", "job")
	}
	if r.Team == "" && d.roll(2) == 0 {
		r.Team = pick(d, "a", "c", "t0", "ghost")
	}
	for _, team := range teams {
		if team.Over == r.Team && r.Team != "" && d.roll(2) == 0 {
			r.Team = team.Name
		}
	}
	if d.roll(2) == 0 {
		r.Prefix += pick(d, "x", "-")
	}
	return r
}

func allowedByOne(teams teamList, rules ruleList, a impl.GateAct) bool {
	return slices.ContainsFunc(rules, func(r impl.GateRule) bool { return impl.GateAllows(teams, r, a) })
}

// Every list of up to three teams of three names, in all of these, one that is not there, or none.
func TestGateTeamsOneByOne(t *testing.T) {
	names, overs := []string{"a", "b", "c"}, []string{"", "a", "b", "c", "d"}
	ok := 0
	var grow func(teams teamList)
	grow = func(teams teamList) {
		want := teamsAreOk(teams)
		if want {
			ok++
		}
		if got := impl.GateTeamsOk(teams); got != want {
			t.Fatalf("ok is %v of %v", got, teams)
		}
		for _, a := range overs {
			for _, b := range overs {
				if got := impl.GateUnder(teams, a, b); got != standsUnder(teams, a, b) {
					t.Fatalf("%q under %q is %v in %v", a, b, got, teams)
				}
			}
		}
		if len(teams) == 3 {
			return
		}
		for _, name := range names {
			for _, over := range overs {
				grow(append(slices.Clone(teams), impl.GateTeam{Name: name, Over: over}))
			}
		}
	}
	grow(nil)
	// 1 without any, 3 of one, 3 times 3 of two, and 16 of three: as many as there are forests.
	if want := 1 + 3 + 9 + 16; ok != want {
		t.Errorf("%d lists are ok, not %d", ok, want)
	}
}

func TestGateTeamsMadeUp(t *testing.T) {
	d := dice(11)
	counts := map[bool]int{}
	for range 20000 {
		teams := d.teams()
		want := teamsAreOk(teams)
		counts[want]++
		if got := impl.GateTeamsOk(teams); got != want {
			t.Fatalf("ok is %v of %v", got, teams)
		}
		a, b := d.act().Team, d.act().Team
		if got := impl.GateUnder(teams, a, b); got != standsUnder(teams, a, b) {
			t.Fatalf("%q under %q is %v in %v", a, b, got, teams)
		}
	}
	if counts[true] < 5000 || counts[false] < 1000 {
		t.Errorf("too few made-up cases: %v", counts)
	}
}

func TestGateAllowsMadeUp(t *testing.T) {
	d := dice(12)
	counts := map[bool]int{}
	for range 40000 {
		teams, r, a := d.teams(), d.rule(), d.act()
		if d.roll(4) == 0 {
			a = d.actOf(teams, r)
		}
		inKind := r.Kind == "" || r.Kind == a.Kind
		inTeam := r.Team == "" || standsUnder(teams, a.Team, r.Team)
		want := teamsAreOk(teams) && slices.Contains(r.Verbs, a.Verb) && inKind && inTeam && strings.HasPrefix(a.Name, r.Prefix)
		counts[want]++
		if got := impl.GateAllows(teams, r, a); got != want {
			t.Fatalf("%+v allows %+v: %v, among %v", r, a, got, teams)
		}
	}
	if counts[true] < 1000 || counts[false] < 1000 {
		t.Errorf("too few made-up cases: %v", counts)
	}
}

func TestGateCoversAsTheDocumentSays(t *testing.T) {
	d := dice(13)
	counts := map[bool]int{}
	for range 20000 {
		teams, rules, r := d.teams(), d.rules(6), d.rule()
		if !teamsAreOk(teams) {
			coversNot(t, "made-up teams", teams, rules, r)
			continue
		}
		missing := slices.DeleteFunc(slices.Clone(r.Verbs), func(verb int) bool { return coveredBy(teams, rules, r, verb) })
		counts[len(missing) == 0]++
		if got := impl.GateCovers(teams, rules, r); got != (len(missing) == 0) {
			t.Fatalf("%+v cover %+v: %v, among %v", rules, r, got, teams)
		}
		if a, found := impl.GateUncovered(teams, rules, r); found && a.Verb != missing[0] {
			t.Fatalf("%+v leave %+v of %+v uncovered, among %v", rules, a, r, teams)
		}
	}
	if counts[true] < 1000 || counts[false] < 1000 {
		t.Errorf("too few made-up cases: %v", counts)
	}
}

// Promise 3: sound and whole.
func TestGateCoversIsSoundAndWhole(t *testing.T) {
	d := dice(14)
	covered, allowed, told := 0, 0, 0
	for range 8000 {
		teams, rules := d.teams(), d.rules(6)
		r := d.rule()
		if len(rules) > 0 && d.roll(2) == 0 {
			r = d.narrower(teams, pick(&d, rules...))
		}
		if !impl.GateTeamsOk(teams) {
			continue
		}
		a, found := impl.GateUncovered(teams, rules, r)
		if found == impl.GateCovers(teams, rules, r) {
			t.Fatalf("GateUncovered says %v, as GateCovers does: %+v, %+v, %v", found, rules, r, teams)
		}
		if found {
			told++
			if !impl.GateAllows(teams, r, a) || allowedByOne(teams, rules, a) {
				t.Fatalf("%+v is told of %+v, %+v, %v", a, rules, r, teams)
			}
			continue
		}
		covered++
		for range 20 {
			a := d.actOf(teams, r)
			if !impl.GateAllows(teams, r, a) {
				continue
			}
			allowed++
			if !allowedByOne(teams, rules, a) {
				t.Fatalf("%+v is allowed by %+v alone, though %+v cover it among %v", a, r, rules, teams)
			}
		}
	}
	if covered < 1000 || allowed < 20000 || told < 1000 {
		t.Errorf("too few made-up cases: %d covered, %d acts allowed, %d told", covered, allowed, told)
	}
}

// Promise 3: what a rule gives away can always be given on.
func TestGateCoversANarrowerRule(t *testing.T) {
	d := dice(15)
	for range 8000 {
		teams, r := d.teams(), d.rule()
		narrow := d.narrower(teams, r)
		if impl.GateTeamsOk(teams) && !impl.GateCovers(teams, ruleList{d.rule(), r, d.rule()}, narrow) {
			t.Fatalf("%+v does not cover %+v among %v", r, narrow, teams)
		}
	}
}

// Promise 3: covering leads on.
func TestGateCoversLeadsOn(t *testing.T) {
	d := dice(16)
	led := 0
	for range 20000 {
		teams, first := d.teams(), d.rules(8)
		if !impl.GateTeamsOk(teams) {
			continue
		}
		// Those of the made-up rules that are covered, so that they are so often enough.
		var second ruleList
		for range 8 {
			r := d.rule()
			if len(first) > 0 && d.roll(2) == 0 {
				r = d.narrower(teams, pick(&d, first...))
			}
			if impl.GateCovers(teams, first, r) {
				second = append(second, r)
			}
		}
		r := d.rule()
		if len(second) > 0 && d.roll(2) == 0 {
			r = d.narrower(teams, pick(&d, second...))
		}
		if !impl.GateCovers(teams, second, r) {
			continue
		}
		led++
		if !impl.GateCovers(teams, first, r) {
			t.Fatalf("%+v cover %+v, and they cover %+v, but not the first ones, among %v", first, second, r, teams)
		}
	}
	if led < 2000 {
		t.Errorf("too few made-up cases: %d", led)
	}
}
