package tests

import (
	"math"
	"reflect"
	"slices"
	"strconv"
	"testing"

	"loop.example/wharfdesk/impl"
)

type (
	teamList = []impl.GateTeam
	ruleList = []impl.GateRule
)

// fleetTeams has a team with two over it, and one that stands for itself.
func fleetTeams() teamList {
	return teamList{{Name: "dev"}, {Name: "lab", Over: "dev"}, {Name: "ops"}, {Name: "yard", Over: "lab"}}
}

// chain is n teams, each of which stands in the one ahead of it.
func chain(n int) teamList {
	list := make(teamList, n)
	for i := range list {
		list[i].Name = string(rune('a' + i))
		if i > 0 {
			list[i].Over = list[i-1].Name
		}
	}
	return list
}

// ring is n teams, each of which stands in the one behind it, and the last one in the first.
func ring(n int) teamList {
	list := chain(n)
	for i := range list {
		list[i].Over = list[(i+1)%n].Name
	}
	return list
}

func manyTeams(n int) teamList {
	list := chain(n)
	for i := range list {
		list[i].Over = ""
	}
	return list
}

func verbs(list ...int) []int {
	return list
}

// rule is for all kinds and teams, and names that begin with the prefix.
func rule(prefix string, verbs ...int) impl.GateRule {
	return impl.GateRule{Verbs: verbs, Prefix: prefix}
}

func ofKind(kind string, r impl.GateRule) impl.GateRule {
	r.Kind = kind
	return r
}

func ofTeam(team string, r impl.GateRule) impl.GateRule {
	r.Team = team
	return r
}

func act(verb int, kind, team, name string) impl.GateAct {
	return impl.GateAct{Verb: verb, Kind: kind, Team: team, Name: name}
}

func TestGateUnder(t *testing.T) {
	for _, c := range []struct {
		what  string
		teams teamList
		a, b  string
		want  bool
	}{
		{"a team under itself", fleetTeams(), "lab", "lab", true},
		{"one over it", fleetTeams(), "lab", "dev", true},
		{"two over it", fleetTeams(), "yard", "dev", true},
		{"the one below", fleetTeams(), "dev", "lab", false},
		{"two below", fleetTeams(), "dev", "yard", false},
		{"a team beside it", fleetTeams(), "lab", "ops", false},
		{"the beginning of a name", fleetTeams(), "lab", "de", false},
		{"no team's Name, under itself", fleetTeams(), "ghost", "ghost", true},
		{"no team's Name", fleetTeams(), "ghost", "dev", false},
		{"under no team's Name", fleetTeams(), "lab", "ghost", false},
		{"two that are no team's Name", fleetTeams(), "ghost", "other", false},
		{"no name at all", fleetTeams(), "No Name\x00", "No Name\x00", true},
		{"without teams", nil, "dev", "lab", false},
		{"without teams, itself", nil, "dev", "dev", true},
		{"both empty", fleetTeams(), "", "", true},
		{"both empty, without teams", nil, "", "", true},
		{"a empty", fleetTeams(), "", "dev", false},
		{"b empty", fleetTeams(), "lab", "", false},
		{"b empty, of a team in none", fleetTeams(), "dev", "", false},
		{"b empty, of no team", fleetTeams(), "ghost", "", false},
		{"from a team with an empty Name", teamList{{Name: "", Over: "dev"}}, "", "dev", true},
		{"not over the empty one", teamList{{Name: "", Over: "dev"}, {Name: "lab"}}, "lab", "dev", false},
		{"not to the empty one, though it is there", teamList{{Name: ""}, {Name: "lab"}}, "lab", "", false},
		{"as deep as there may be", chain(6), "f", "b", true},
		{"one too deep", chain(6), "f", "a", false},
		{"as deep as there may be, to no team", append(teamList{{Name: "a", Over: "ghost"}}, chain(5)[1:]...), "d", "ghost", true},
		{"one too deep, to no team", append(teamList{{Name: "a", Over: "ghost"}}, chain(5)[1:]...), "e", "ghost", false},
		{"an Over that is no team's Name", teamList{{Name: "lab", Over: "ghost"}}, "lab", "ghost", true},
		{"past an Over that is no team's Name", teamList{{Name: "dev"}, {Name: "lab", Over: "ghost"}}, "lab", "dev", false},
		{"over itself", ring(1), "a", "a", true},
		{"over itself, another one", ring(1), "a", "b", false},
		{"over itself, the empty one", ring(1), "a", "", false},
		{"a circle of two", ring(2), "a", "b", true},
		{"a circle of two, the other way", ring(2), "b", "a", true},
		{"a circle of two, another one", ring(2), "a", "c", false},
		{"a circle of three, behind it", ring(3), "a", "c", true},
		{"a circle of five, just ahead of it", ring(5), "a", "e", true},
		{"a circle of six, as deep as there may be", ring(6), "a", "e", true},
		{"a circle of six, just ahead of it", ring(6), "a", "f", false},
		{"into a circle", append(ring(2), impl.GateTeam{Name: "c", Over: "a"}), "c", "b", true},
		{"out of a circle", append(ring(2), impl.GateTeam{Name: "c", Over: "a"}), "a", "c", false},
		{"the first of a Name", teamList{{Name: "lab", Over: "dev"}, {Name: "lab", Over: "ops"}}, "lab", "dev", true},
		{"the second of a Name", teamList{{Name: "lab", Over: "dev"}, {Name: "lab", Over: "ops"}}, "lab", "ops", false},
		{"the second of a Name, the first in none", teamList{{Name: "lab"}, {Name: "lab", Over: "ops"}}, "lab", "ops", false},
		{"the first of a Name, on the way", teamList{{Name: "yard", Over: "lab"}, {Name: "lab", Over: "dev"}, {Name: "lab", Over: "ops"}}, "yard", "dev", true},
		{"the second of a Name, on the way", teamList{{Name: "yard", Over: "lab"}, {Name: "lab", Over: "dev"}, {Name: "lab", Over: "ops"}}, "yard", "ops", false},
		{"teams in any order", teamList{{Name: "c", Over: "a"}, {Name: "b"}, {Name: "a", Over: "b"}}, "c", "b", true},
		{"names that are none", teamList{{Name: "A b", Over: letters(40)}}, "A b", letters(40), true},
		{"one team too many", append(manyTeams(impl.GateMaxTeams), impl.GateTeam{Name: "z", Over: "a"}), "z", "a", true},
	} {
		if got := impl.GateUnder(c.teams, c.a, c.b); got != c.want {
			t.Errorf("%s: %v", c.what, got)
		}
	}
}

func TestGateTeamsOk(t *testing.T) {
	for what, teams := range map[string]teamList{
		"none":                     nil,
		"an empty list":            {},
		"one":                      {{Name: "a"}},
		"several":                  fleetTeams(),
		"as many as there may be":  manyTeams(impl.GateMaxTeams),
		"as deep as there may be":  chain(impl.GateMaxDeep + 1),
		"deep, the other way":      {{Name: "a", Over: "b"}, {Name: "b", Over: "c"}, {Name: "c", Over: "d"}, {Name: "d", Over: "e"}, {Name: "e"}},
		"two that are deep":        {{Name: "a"}, {Name: "b", Over: "a"}, {Name: "c", Over: "b"}, {Name: "d", Over: "c"}, {Name: "e", Over: "d"}, {Name: "f", Over: "d"}},
		"all in one":               {{Name: "a", Over: "c"}, {Name: "b", Over: "c"}, {Name: "c"}, {Name: "d", Over: "c"}},
		"a Name of all its bytes":  {{Name: letters(impl.GateMaxName)}},
		"in a Name of all bytes":   {{Name: letters(impl.GateMaxName)}, {Name: "b", Over: letters(impl.GateMaxName)}},
		"digits and dashes":        {{Name: "-"}, {Name: "0"}, {Name: "9-z"}, {Name: "a-0"}},
		"a beginning comes first":  {{Name: "a"}, {Name: "aa"}, {Name: "ab"}},
		"digits ahead of a letter": {{Name: "a-"}, {Name: "a10"}, {Name: "a2"}, {Name: "aa"}},
	} {
		if !impl.GateTeamsOk(teams) {
			t.Errorf("%s: not ok", what)
		}
	}
}

// badTeams names each thing for which teams are not ok.
func badTeams() map[string]teamList {
	return map[string]teamList{
		"one team too many":                  manyTeams(impl.GateMaxTeams + 1),
		"not ascending":                      {{Name: "b"}, {Name: "a"}},
		"not ascending, the last two":        {{Name: "a"}, {Name: "c"}, {Name: "b"}},
		"a longer one ahead of its start":    {{Name: "aa"}, {Name: "a"}},
		"a Name twice":                       {{Name: "a"}, {Name: "a"}},
		"a team twice":                       {{Name: "a"}, {Name: "b", Over: "a"}, {Name: "b", Over: "a"}},
		"an empty Name":                      {{Name: ""}},
		"an empty Name, in a team":           {{Name: "", Over: "a"}, {Name: "a"}},
		"a Name too long":                    {{Name: letters(impl.GateMaxName + 1)}},
		"a Name with a capital":              {{Name: "aB"}},
		"a Name with a blank":                {{Name: "a b"}},
		"a Name with a byte ahead of a":      {{Name: "a`"}},
		"a Name with a byte behind z":        {{Name: "a{"}},
		"a Name with a letter of two bytes":  {{Name: "ä"}},
		"the last Name none":                 {{Name: "a"}, {Name: "b_"}},
		"an Over that is no team's":          {{Name: "a", Over: "b"}},
		"an Over that is no team's, nor any": {{Name: "a"}, {Name: "b", Over: "A"}},
		"an Over that begins a Name":         {{Name: "aa"}, {Name: "b", Over: "a"}},
		"the first in no team":               {{Name: "a", Over: "x"}, {Name: "b"}},
		"the last in no team":                {{Name: "a"}, {Name: "b", Over: "a"}, {Name: "c", Over: "x"}},
		"one too deep":                       chain(impl.GateMaxDeep + 2),
		"two too deep":                       chain(impl.GateMaxDeep + 3),
		"far too deep":                       chain(impl.GateMaxTeams),
		"the first one too deep":             {{Name: "a", Over: "b"}, {Name: "b", Over: "c"}, {Name: "c", Over: "d"}, {Name: "d", Over: "e"}, {Name: "e", Over: "f"}, {Name: "f"}},
		"over itself":                        ring(1),
		"over itself, the last":              {{Name: "a"}, {Name: "b", Over: "b"}},
		"a circle of two":                    ring(2),
		"a circle of three":                  ring(3),
		"a circle of four":                   ring(4),
		"a circle of five":                   ring(5),
		"a circle of six":                    ring(6),
		"a circle of all":                    ring(impl.GateMaxTeams),
		"one in a circle of others":          append(ring(2), impl.GateTeam{Name: "c", Over: "a"}),
		"a circle and some that are none":    {{Name: "a"}, {Name: "b", Over: "a"}, {Name: "c", Over: "d"}, {Name: "d", Over: "c"}},
	}
}

func TestGateTeamsNotOk(t *testing.T) {
	for what, teams := range badTeams() {
		if impl.GateTeamsOk(teams) {
			t.Errorf("%s: ok", what)
		}
	}
}

// okRules each allow GateChange of a job of lab whose name is of a's alone.
func okRules() map[string]impl.GateRule {
	return map[string]impl.GateRule{
		"one verb":                    rule("", 2),
		"all verbs":                   rule("", 1, 2, 3, 4, 5),
		"the first and the last verb": rule("", 1, 2, 5),
		"a Kind":                      ofKind("job", rule("", 2)),
		"a Team":                      ofTeam("lab", rule("", 2)),
		"a Team over it":              ofTeam("dev", rule("", 2)),
		"a Prefix":                    rule("a", 2),
		"a Prefix of all its bytes":   rule(letters(impl.GateMaxName), 2),
		"all of it":                   {Verbs: verbs(2, 3), Kind: "job", Team: "lab", Prefix: "aa"},
		"verbs that are not next":     rule("", 2, 4),
	}
}

func TestGateAllowsByEachOkRule(t *testing.T) {
	for what, r := range okRules() {
		if !impl.GateAllows(fleetTeams(), r, act(2, "job", "lab", letters(impl.GateMaxName))) {
			t.Errorf("%s: not allowed", what)
		}
	}
}

// badRules names each thing for which a rule is not ok; but for it, each has what okRules have.
func badRules() map[string]impl.GateRule {
	return map[string]impl.GateRule{
		"no verbs":                         rule(""),
		"an empty list of verbs":           {Verbs: []int{}},
		"the verb 0":                       rule("", 0),
		"the verb 0, ahead of others":      rule("", 0, 2),
		"the verb 6":                       rule("", 6),
		"the verb 6, behind others":        rule("", 2, impl.GateTake),
		"the verb 7":                       rule("", 2, 7),
		"the verb 8":                       rule("", 2, 8),
		"the verb 64":                      rule("", 2, 64),
		"the verb 256 and more":            rule("", 2, 256+3),
		"the greatest number":              rule("", 2, math.MaxInt),
		"a verb below 0":                   rule("", -1, 2),
		"the least number":                 rule("", math.MinInt, 2),
		"a verb twice":                     rule("", 2, 2),
		"verbs that go down":               rule("", 2, 1),
		"verbs that go down, the last two": rule("", 2, 5, 4),
		"all verbs, and one again":         rule("", 1, 2, 3, 4, 5, 5),
		"a Kind with a capital":            ofKind("Job", rule("", 2)),
		"a Kind with a blank":              ofKind("job ", rule("", 2)),
		"a Kind too long":                  ofKind(letters(impl.GateMaxName+1), rule("", 2)),
		"a Team with a capital":            ofTeam("Lab", rule("", 2)),
		"a Team with a byte of its own":    ofTeam("lab\x00", rule("", 2)),
		"a Team too long":                  ofTeam(letters(impl.GateMaxName+1), rule("", 2)),
		"a Prefix with a capital":          rule("A", 2),
		"a Prefix with a blank":            rule(" ", 2),
		"a Prefix with a byte of 0":        rule("a\x00", 2),
		"a Prefix with an underscore":      rule("a_", 2),
		"a Prefix with a letter of two":    rule("aä", 2),
		"a Prefix too long":                rule(letters(impl.GateMaxName+1), 2),
	}
}

// actsOf are acts that a rule would allow if it were ok: one of each verb that it names, of its own Kind, Team and Prefix.
func actsOf(r impl.GateRule) []impl.GateAct {
	var list []impl.GateAct
	for _, verb := range append([]int{2}, r.Verbs...) {
		list = append(list, act(verb, r.Kind, r.Team, r.Prefix), act(verb, r.Kind, r.Team, r.Prefix+"a"))
	}
	return list
}

func TestGateAllowsNothingByARuleThatIsNotOk(t *testing.T) {
	for what, r := range badRules() {
		for _, a := range actsOf(r) {
			if impl.GateAllows(fleetTeams(), r, a) {
				t.Errorf("%s: allows %+v", what, a)
			}
		}
	}
	for what, teams := range badTeams() {
		if impl.GateAllows(teams, rule("", 2), act(2, "job", "a", "x")) || impl.GateAllows(teams, ofTeam("a", rule("", 2)), act(2, "job", "a", "x")) {
			t.Errorf("%s: the teams allow something", what)
		}
	}
}

func TestGateAllows(t *testing.T) {
	whole := impl.GateRule{Verbs: verbs(2, 4), Kind: "job", Team: "lab", Prefix: "b-"}
	for _, c := range []struct {
		what string
		r    impl.GateRule
		a    impl.GateAct
		want bool
	}{
		{"all as it says", whole, act(2, "job", "lab", "b-1"), true},
		{"its other verb", whole, act(4, "job", "lab", "b-1"), true},
		{"a team under it", whole, act(2, "job", "yard", "b-1"), true},
		{"the Prefix alone", whole, act(2, "job", "lab", "b-"), true},
		{"behind the Prefix what no name has", whole, act(2, "job", "lab", "b- \x00Ä"+letters(99)), true},
		{"a verb below its verbs", whole, act(1, "job", "lab", "b-1"), false},
		{"a verb between its verbs", whole, act(3, "job", "lab", "b-1"), false},
		{"a verb above its verbs", whole, act(5, "job", "lab", "b-1"), false},
		{"another Kind", whole, act(2, "berth", "lab", "b-1"), false},
		{"a Kind that begins with its", whole, act(2, "jobs", "lab", "b-1"), false},
		{"the beginning of its Kind", whole, act(2, "jo", "lab", "b-1"), false},
		{"no Kind", whole, act(2, "", "lab", "b-1"), false},
		{"the team over it", whole, act(2, "job", "dev", "b-1"), false},
		{"another team", whole, act(2, "job", "ops", "b-1"), false},
		{"no team's Name", whole, act(2, "job", "ghost", "b-1"), false},
		{"no Team", whole, act(2, "job", "", "b-1"), false},
		{"another Name", whole, act(2, "job", "lab", "c-1"), false},
		{"the beginning of its Prefix", whole, act(2, "job", "lab", "b"), false},
		{"its Prefix further on", whole, act(2, "job", "lab", "ab-1"), false},
		{"no Name", whole, act(2, "job", "lab", ""), false},
		{"nothing", whole, impl.GateAct{}, false},

		{"nothing, by a rule for all", rule("", 1, 2, 3, 4, 5), impl.GateAct{}, false},
		{"a verb alone, by a rule for all", rule("", 1, 2, 3, 4, 5), impl.GateAct{Verb: 1}, true},
		{"anything, by a rule for all", rule("", 5), act(5, "No Kind\xff", letters(99), "\x00"), true},
		{"the verb 0", rule("", 1, 2, 3, 4, 5), act(0, "job", "lab", "x"), false},
		{"the verb 6", rule("", 1, 2, 3, 4, 5), act(impl.GateTake, "job", "lab", "x"), false},
		{"the verb 7", rule("", 1, 2, 3, 4, 5), act(7, "job", "lab", "x"), false},
		{"the verb -1", rule("", 1, 2, 3, 4, 5), act(-1, "job", "lab", "x"), false},
		{"a verb of 64 more", rule("", 1, 2, 3, 4, 5), act(64+1, "job", "lab", "x"), false},
		{"a verb of 256 more", rule("", 1, 2, 3, 4, 5), act(256+1, "job", "lab", "x"), false},
		{"the greatest verb", rule("", 1, 2, 3, 4, 5), act(math.MaxInt, "job", "lab", "x"), false},
		{"the least verb", rule("", 1, 2, 3, 4, 5), act(math.MinInt, "job", "lab", "x"), false},

		{"a Kind alone", ofKind("job", rule("", 1)), act(1, "job", "ghost", ""), true},
		{"a Kind alone, another one", ofKind("job", rule("", 1)), act(1, "berth", "ghost", ""), false},
		{"a Kind that is no name", rule("", 1), act(1, "J ob", "lab", "x"), true},
		{"a Team alone", ofTeam("dev", rule("", 1)), act(1, "", "yard", ""), true},
		{"a Team alone, another one", ofTeam("dev", rule("", 1)), act(1, "", "ops", ""), false},
		{"a Team alone, the empty one", ofTeam("dev", rule("", 1)), act(1, "job", "", "x"), false},
		{"a Team that is no team's Name", ofTeam("ghost", rule("", 1)), act(1, "job", "ghost", "x"), true},
		{"a Team that is no team's Name, another one", ofTeam("ghost", rule("", 1)), act(1, "job", "lab", "x"), false},
		{"a Prefix alone", rule("b", 1), act(1, "", "", "b"), true},
		{"a Prefix alone, another one", rule("b", 1), act(1, "", "", "B"), false},
	} {
		if got := impl.GateAllows(fleetTeams(), c.r, c.a); got != c.want {
			t.Errorf("%s: %v", c.what, got)
		}
	}
	if !impl.GateAllows(nil, ofTeam("lab", rule("", 1)), act(1, "job", "lab", "x")) || impl.GateAllows(nil, ofTeam("lab", rule("", 1)), act(1, "job", "dev", "x")) {
		t.Error("without teams")
	}
	if deep := chain(5); !impl.GateAllows(deep, ofTeam("a", rule("", 1)), act(1, "job", "e", "x")) || impl.GateAllows(deep, ofTeam("e", rule("", 1)), act(1, "job", "a", "x")) {
		t.Error("as deep as there may be")
	}
}

func TestGateCovers(t *testing.T) {
	whole := impl.GateRule{Verbs: verbs(1, 2, 4), Kind: "job", Team: "lab", Prefix: "b-"}
	all := rule("", 1, 2, 3, 4, 5)
	for _, c := range []struct {
		what  string
		rules ruleList
		r     impl.GateRule
		want  bool
	}{
		{"none", nil, whole, false},
		{"an empty list", ruleList{}, whole, false},
		{"by itself", ruleList{whole}, whole, true},
		{"by a rule for all", ruleList{all}, whole, true},
		{"a rule for all by itself", ruleList{all}, all, true},
		{"a rule for all by less", ruleList{whole}, all, false},
		{"more verbs", ruleList{{Verbs: verbs(1, 2, 3, 4), Kind: "job", Team: "lab", Prefix: "b-"}}, whole, true},
		{"less verbs", ruleList{{Verbs: verbs(1, 4), Kind: "job", Team: "lab", Prefix: "b-"}}, whole, false},
		{"other verbs", ruleList{rule("", 3, 5)}, whole, false},

		{"several between them", ruleList{rule("", 1), ofKind("job", rule("", 2)), ofTeam("dev", rule("b", 4))}, whole, true},
		{"several between them, in another order", ruleList{rule("", 4, 5), rule("", 3), rule("", 2), rule("b-", 1, 3)}, whole, true},
		{"several that have verbs in common", ruleList{rule("", 1, 2), rule("", 2, 4)}, whole, true},
		{"several, and one verb of none", ruleList{rule("", 1), rule("", 2), rule("", 3), rule("", 5)}, whole, false},
		{"several, and one verb of another Kind", ruleList{rule("", 1, 2), ofKind("berth", rule("", 4))}, whole, false},
		{"several, and one verb of another Team", ruleList{rule("", 1, 2), ofTeam("ops", rule("", 4))}, whole, false},
		{"several, and one verb of another Prefix", ruleList{rule("", 1, 2), rule("b-1", 4)}, whole, false},
		{"behind others that cover nothing", ruleList{ofKind("berth", all), ofTeam("ops", all), rule("c", 1, 2, 3, 4, 5), whole}, whole, true},

		{"an empty Kind by itself", ruleList{rule("", 1)}, rule("", 1), true},
		{"an empty Kind by a Kind", ruleList{ofKind("job", rule("", 1))}, rule("", 1), false},
		{"an empty Kind by several Kinds", ruleList{ofKind("job", rule("", 1)), ofKind("berth", rule("", 1))}, rule("", 1), false},
		{"an empty Kind, by one with a Kind and one without", ruleList{ofKind("job", rule("", 1)), rule("", 1)}, rule("", 1), true},
		{"a Kind by an empty one", ruleList{rule("", 1)}, ofKind("job", rule("", 1)), true},
		{"a Kind by its beginning", ruleList{ofKind("jo", rule("", 1))}, ofKind("job", rule("", 1)), false},
		{"a Kind that is no shape's", ruleList{ofKind("ghost", rule("", 1))}, ofKind("ghost", rule("", 1)), true},

		{"an empty Team by itself", ruleList{rule("", 1)}, rule("", 1), true},
		{"an empty Team by a Team", ruleList{ofTeam("dev", rule("", 1))}, rule("", 1), false},
		{"an empty Team by all the teams", ruleList{ofTeam("dev", rule("", 1)), ofTeam("lab", rule("", 1)), ofTeam("ops", rule("", 1)), ofTeam("yard", rule("", 1))}, rule("", 1), false},
		{"an empty Team, by one with a Team and one without", ruleList{ofTeam("dev", rule("", 1)), rule("", 1)}, rule("", 1), true},
		{"an empty Team by an empty one of a Kind", ruleList{ofKind("job", rule("", 1))}, ofKind("job", rule("b", 1)), true},
		{"a Team by an empty one", ruleList{rule("", 1)}, ofTeam("lab", rule("", 1)), true},
		{"a Team by the one over it", ruleList{ofTeam("dev", rule("", 1))}, ofTeam("lab", rule("", 1)), true},
		{"a Team by the one two over it", ruleList{ofTeam("dev", rule("", 1))}, ofTeam("yard", rule("", 1)), true},
		{"a Team by the one below it", ruleList{ofTeam("lab", rule("", 1))}, ofTeam("dev", rule("", 1)), false},
		{"a Team by all below it", ruleList{ofTeam("lab", rule("", 1)), ofTeam("yard", rule("", 1))}, ofTeam("dev", rule("", 1)), false},
		{"a Team by another one", ruleList{ofTeam("ops", rule("", 1))}, ofTeam("lab", rule("", 1)), false},
		{"a Team that is no team's Name, by itself", ruleList{ofTeam("ghost", rule("", 1))}, ofTeam("ghost", rule("", 1)), true},
		{"a Team that is no team's Name, by a team", ruleList{ofTeam("dev", rule("", 1))}, ofTeam("ghost", rule("", 1)), false},
		{"a Team by one that is no team's Name", ruleList{ofTeam("ghost", rule("", 1))}, ofTeam("lab", rule("", 1)), false},

		{"a Prefix by its beginning", ruleList{rule("b", 1)}, rule("b-1", 1), true},
		{"a Prefix by one that goes on", ruleList{rule("b-1", 1)}, rule("b", 1), false},
		{"a Prefix by all that go on by a letter", ruleList{rule("ba", 1), rule("bb", 1)}, rule("b", 1), false},
		{"a Prefix by its end", ruleList{rule("-1", 1)}, rule("b-1", 1), false},
		{"an empty Prefix by one", ruleList{rule("b", 1)}, rule("", 1), false},
		{"a Prefix of all its bytes", ruleList{rule(letters(impl.GateMaxName), 1)}, rule(letters(impl.GateMaxName), 1), true},
		{"a rule twice", ruleList{rule("", 1), rule("", 1)}, rule("", 1), true},
	} {
		if got := impl.GateCovers(fleetTeams(), c.rules, c.r); got != c.want {
			t.Errorf("%s: %v", c.what, got)
		}
		if _, got := impl.GateUncovered(fleetTeams(), c.rules, c.r); got == c.want {
			t.Errorf("%s: GateUncovered says %v", c.what, got)
		}
	}
}

// Nothing is covered, and no act is told, where the teams or a rule are not ok.
func coversNot(t *testing.T, what string, teams teamList, rules ruleList, r impl.GateRule) {
	t.Helper()
	if impl.GateCovers(teams, rules, r) {
		t.Errorf("%s: covered", what)
	}
	if a, got := impl.GateUncovered(teams, rules, r); got || a != (impl.GateAct{}) {
		t.Errorf("%s: uncovered is %+v, %v", what, a, got)
	}
}

func TestGateCoversNothingThatIsNotOk(t *testing.T) {
	all := rule("", 1, 2, 3, 4, 5)
	for what, bad := range badRules() {
		coversNot(t, what+", of r", fleetTeams(), ruleList{all}, bad)
		coversNot(t, what+", of r, by none", fleetTeams(), nil, bad)
		coversNot(t, what+", of both", fleetTeams(), ruleList{bad}, bad)
		coversNot(t, what+", alone", fleetTeams(), ruleList{bad}, rule("", 2))
		coversNot(t, what+", first", fleetTeams(), ruleList{bad, all}, rule("", 2))
		coversNot(t, what+", last", fleetTeams(), ruleList{all, bad}, rule("", 2))
	}
	for what, teams := range badTeams() {
		coversNot(t, what+", covered", teams, ruleList{all}, rule("", 2))
		coversNot(t, what+", not covered", teams, nil, rule("", 2))
		coversNot(t, what+", by itself", teams, ruleList{ofTeam("a", all)}, ofTeam("a", all))
	}
}

func TestGateUncovered(t *testing.T) {
	none := impl.GateAct{}
	whole := impl.GateRule{Verbs: verbs(2, 3, 5), Kind: "job", Team: "lab", Prefix: "b-"}
	for _, c := range []struct {
		what  string
		rules ruleList
		r     impl.GateRule
		want  impl.GateAct
	}{
		{"covered by itself", ruleList{whole}, whole, none},
		{"covered between them", ruleList{rule("", 2, 3), rule("", 5)}, whole, none},

		{"none of the verbs", nil, whole, act(2, "job", "lab", "b-")},
		{"none of the verbs, by other ones", ruleList{rule("", 1, 4)}, whole, act(2, "job", "lab", "b-")},
		{"the first verb alone is covered", ruleList{rule("", 2)}, whole, act(3, "job", "lab", "b-")},
		{"the second verb alone is covered", ruleList{rule("", 3)}, whole, act(2, "job", "lab", "b-")},
		{"the last verb alone is not", ruleList{rule("", 2), rule("", 3)}, whole, act(5, "job", "lab", "b-")},
		{"the last two are not", ruleList{rule("", 1, 2)}, whole, act(3, "job", "lab", "b-")},
		{"the second is, by another Kind", ruleList{rule("", 2), ofKind("berth", rule("", 3)), rule("", 5)}, whole, act(3, "job", "lab", "b-")},
		{"the second is, by a Team below", ruleList{rule("", 2), ofTeam("yard", rule("", 3)), rule("", 5)}, whole, act(3, "job", "lab", "b-")},
		{"the second is, by a Prefix that goes on", ruleList{rule("", 2), rule("b-1", 3), rule("", 5)}, whole, act(3, "job", "lab", "b-")},
		{"one verb, the last that there is", nil, rule("", 5), act(5, "k0", "t0", "")},
		{"all verbs", nil, rule("", 1, 2, 3, 4, 5), act(1, "k0", "t0", "")},

		{"no Kind", nil, ofTeam("lab", rule("b", 1)), act(1, "k0", "lab", "b")},
		{"no Kind, k0 taken", ruleList{ofKind("k0", rule("", 1))}, ofTeam("lab", rule("", 1)), act(1, "k1", "lab", "")},
		{"no Kind, k0 taken by a rule of another verb", ruleList{ofKind("k0", rule("", 2))}, ofTeam("lab", rule("", 1)), act(1, "k1", "lab", "")},
		{"no Kind, k0 taken by a rule of another team", ruleList{ofKind("k0", ofTeam("ops", rule("c", 1)))}, ofTeam("lab", rule("b", 1)), act(1, "k1", "lab", "b")},
		{"no Kind, k1 taken", ruleList{ofKind("k1", rule("", 1))}, ofTeam("lab", rule("", 1)), act(1, "k0", "lab", "")},
		{"no Kind, k0 and k2 taken", ruleList{ofKind("k2", rule("", 1)), ofKind("k0", rule("", 1))}, ofTeam("lab", rule("", 1)), act(1, "k1", "lab", "")},
		{"no Kind, k0 to k2 taken", ruleList{ofKind("k2", rule("", 1)), ofKind("k0", rule("", 1)), ofKind("k1", rule("", 1))}, ofTeam("lab", rule("", 1)), act(1, "k3", "lab", "")},
		{"no Kind, others that begin with k taken", ruleList{ofKind("k", rule("", 1)), ofKind("k00", rule("", 1)), ofKind("k01", rule("", 1)), ofKind("t0", rule("", 1))}, ofTeam("lab", rule("", 1)), act(1, "k0", "lab", "")},
		{"no Kind, k0 taken as a Team and a Prefix", ruleList{{Verbs: verbs(2), Team: "k0", Prefix: "k0"}}, ofTeam("lab", rule("", 1)), act(1, "k0", "lab", "")},
		{"a Kind that is k0", ruleList{ofKind("k0", rule("", 2))}, ofKind("k0", ofTeam("lab", rule("", 1))), act(1, "k0", "lab", "")},

		{"no Team", nil, ofKind("job", rule("b", 1)), act(1, "job", "t0", "b")},
		{"no Team, t0 taken by a rule", ruleList{ofTeam("t0", rule("", 1))}, ofKind("job", rule("", 1)), act(1, "job", "t1", "")},
		{"no Team, t0 taken by a rule of another verb", ruleList{ofTeam("t0", rule("", 2))}, ofKind("job", rule("", 1)), act(1, "job", "t1", "")},
		{"no Team, t1 taken by a rule", ruleList{ofTeam("t1", rule("", 1))}, ofKind("job", rule("", 1)), act(1, "job", "t0", "")},
		{"no Team, t0 to t2 taken by rules", ruleList{ofTeam("t1", rule("", 1)), ofTeam("t2", rule("", 1)), ofTeam("t0", rule("", 1))}, ofKind("job", rule("", 1)), act(1, "job", "t3", "")},
		{"no Team, others that begin with t taken", ruleList{ofTeam("t", rule("", 1)), ofTeam("t00", rule("", 1)), ofTeam("k0", rule("", 1))}, ofKind("job", rule("", 1)), act(1, "job", "t0", "")},
		{"no Team, t0 taken as a Kind and a Prefix", ruleList{{Verbs: verbs(2), Kind: "t0", Prefix: "t0"}}, ofKind("job", rule("", 1)), act(1, "job", "t0", "")},
		{"a Team that is t0", ruleList{ofTeam("t0", rule("", 2))}, ofKind("job", ofTeam("t0", rule("", 1))), act(1, "job", "t0", "")},
		{"a Team that is no team's Name", ruleList{ofTeam("dev", rule("", 1))}, ofKind("job", ofTeam("ghost", rule("", 1))), act(1, "job", "ghost", "")},

		{"neither Kind nor Team, both taken", ruleList{{Verbs: verbs(1), Kind: "k0", Team: "t0"}, {Verbs: verbs(1), Kind: "k1", Team: "dev"}}, rule("b", 1), act(1, "k2", "t1", "b")},
		{"a Prefix of all its bytes", nil, ofKind("job", ofTeam("lab", rule(letters(impl.GateMaxName), 4))), act(4, "job", "lab", letters(impl.GateMaxName))},
	} {
		a, found := impl.GateUncovered(fleetTeams(), c.rules, c.r)
		if a != c.want || found != (c.want != none) {
			t.Errorf("%s: %+v, %v", c.what, a, found)
		}
	}
}

func TestGateUncoveredTakesNoTeamThatIsThere(t *testing.T) {
	for _, c := range []struct {
		what  string
		teams teamList
		rules ruleList
		want  string
	}{
		{"without teams", nil, nil, "t0"},
		{"t0 a team", teamList{{Name: "t0"}}, nil, "t1"},
		{"t0 a team, though it stands in one", teamList{{Name: "dev"}, {Name: "t0", Over: "dev"}}, nil, "t1"},
		{"t1 a team", teamList{{Name: "t1"}}, nil, "t0"},
		{"t0 and t1 teams", teamList{{Name: "t0"}, {Name: "t1"}}, nil, "t2"},
		{"t0 a team, t1 a rule's", teamList{{Name: "t0"}}, ruleList{ofTeam("t1", rule("", 2))}, "t2"},
		{"t0 a rule's, t1 a team", teamList{{Name: "t1"}}, ruleList{ofTeam("t0", rule("", 2))}, "t2"},
		{"t0 both, t2 a team", teamList{{Name: "t0"}, {Name: "t2"}}, ruleList{ofTeam("t0", rule("", 2))}, "t1"},
		{"k0 a team", teamList{{Name: "k0"}}, nil, "t0"},
	} {
		want := act(1, "k0", c.want, "")
		if a, found := impl.GateUncovered(c.teams, c.rules, rule("", 1)); a != want || !found {
			t.Errorf("%s: %+v, %v", c.what, a, found)
		}
	}
}

// As far as the names go: all teams and many rules have one.
func TestGateUncoveredBehindManyThatAreTaken(t *testing.T) {
	var teams teamList
	for i := range impl.GateMaxTeams {
		teams = append(teams, impl.GateTeam{Name: "t" + strconv.Itoa(i)})
	}
	slices.SortFunc(teams, func(a, b impl.GateTeam) int {
		if a.Name < b.Name {
			return -1
		}
		return 1
	})
	var rules ruleList
	for i := range 110 {
		rules = append(rules, impl.GateRule{Verbs: verbs(1), Kind: "k" + strconv.Itoa(i), Team: "t" + strconv.Itoa(i+impl.GateMaxTeams)})
	}
	want := act(1, "k110", "t122", "")
	if a, found := impl.GateUncovered(teams, rules, rule("", 1)); a != want || !found {
		t.Errorf("%+v, %v", a, found)
	}
	slices.Reverse(rules)
	if a, found := impl.GateUncovered(teams, rules, rule("", 1)); a != want || !found {
		t.Errorf("in another order: %+v, %v", a, found)
	}
	if a, found := impl.GateUncovered(teams, rules[1:], rule("", 1)); a != act(1, "k109", "t121", "") || !found {
		t.Errorf("without the last: %+v, %v", a, found)
	}
}

// roomy is a list with room behind its end, in which the same thing stands over and over.
func roomy[T any](behind T, list ...T) []T {
	all := append(slices.Clone(list), slices.Repeat([]T{behind}, 3)...)
	return all[:len(list)]
}

// wholeOf is a list with what stands behind its end.
func wholeOf[T any](list []T) []T {
	return list[:cap(list)]
}

// rightArguments are made anew by each call, with room behind the end of each list.
func rightArguments() (teamList, ruleList, impl.GateRule) {
	teams := roomy(impl.GateTeam{Name: sentinel}, fleetTeams()...)
	some := rule("b", roomy(-9, 1, 3)...)
	rules := roomy(rule(sentinel), ofKind("k0", some), ofTeam("t0", rule("", roomy(-9, 2)...)))
	return teams, rules, rule("b", roomy(-9, 1, 2, 4)...)
}

func TestGateRightsLeaveTheirArguments(t *testing.T) {
	teams, rules, r := rightArguments()
	sameTeams, sameRules, sameRule := rightArguments()
	calls := map[string]func(){
		"GateUnder":     func() { impl.GateUnder(teams, "yard", "dev") },
		"GateTeamsOk":   func() { impl.GateTeamsOk(teams) },
		"GateAllows":    func() { impl.GateAllows(teams, r, act(2, "job", "lab", "b-1")) },
		"GateCovers":    func() { impl.GateCovers(teams, rules, r) },
		"GateUncovered": func() { impl.GateUncovered(teams, rules, r) },
	}
	for what, call := range calls {
		call()
		if !reflect.DeepEqual(wholeOf(teams), wholeOf(sameTeams)) || !reflect.DeepEqual(wholeOf(rules), wholeOf(sameRules)) || !reflect.DeepEqual(wholeOf(r.Verbs), wholeOf(sameRule.Verbs)) {
			t.Errorf("%s: an argument is changed", what)
		}
		for i := range rules {
			if !reflect.DeepEqual(wholeOf(rules[i].Verbs), wholeOf(sameRules[i].Verbs)) {
				t.Errorf("%s: the verbs of rule %d are changed", what, i)
			}
		}
	}
}

// An act has no lists, so all that it could share is seen by turning the arguments around behind the call.
func TestGateUncoveredSharesNothing(t *testing.T) {
	teams, rules, r := rightArguments()
	a, found := impl.GateUncovered(teams, rules, r)
	for i := range wholeOf(teams) {
		wholeOf(teams)[i] = impl.GateTeam{Name: "x", Over: "x"}
	}
	for i := range rules {
		clear(wholeOf(rules[i].Verbs))
	}
	clear(wholeOf(rules))
	clear(wholeOf(r.Verbs))
	if want := act(1, "k1", "t1", "b"); a != want || !found {
		t.Errorf("%+v, %v", a, found)
	}
}

func TestGateRightsConstants(t *testing.T) {
	got := []int{impl.GateMake, impl.GateChange, impl.GateEnd, impl.GateLetGo, impl.GateGive, impl.GateTake, impl.GateMaxTeams, impl.GateMaxDeep}
	if want := []int{1, 2, 3, 4, 5, 6, 12, 4}; !slices.Equal(got, want) {
		t.Errorf("%v, not %v", got, want)
	}
}
