package tests

import (
	"fmt"
	"slices"
	"strconv"
	"strings"
	"testing"

	"loop.example/wharfdesk/impl"
)

type (
	desk     = impl.Desk
	deskWant = impl.DeskWant
	deskOdd  = impl.DeskOdd
	deskPlan = impl.DeskPlan
)

func deskIsOk(d desk) bool {
	return names.MatchString(d.Who) && names.MatchString(d.Door) && (d.Prefix == "" || names.MatchString(d.Prefix))
}

// deskPlanBy is the document's chapter on what a sheet says.
func deskPlanBy(h house, d desk) deskPlan {
	if !hallHouseIsOk(h) || !deskIsOk(d) {
		return deskPlan{}
	}
	s, fault := sheetParseAsRead(d.Text)
	plan := deskPlan{Fault: fault}
	for _, b := range s.Blocks {
		if b.Kind != "service" || !strings.HasPrefix(b.Name, d.Prefix) {
			continue
		}
		want, code := deskServiceBy(h, b)
		if code != 0 {
			plan.Odds = append(plan.Odds, deskOdd{Name: b.Name, Code: code})
		} else {
			plan.Wants = append(plan.Wants, want)
		}
	}
	return plan
}

// deskServiceBy is a block's want, and what is with it; what fits is written out from the table of the law's fields.
func deskServiceBy(h house, b sheetBlock) (deskWant, int) {
	said := func(key string) texts {
		lines, _ := sheetGetAsRead(sheetOf(b), "service", b.Name, key)
		return lines[0].Words
	}
	number := func(key string, at int) int {
		n, err := strconv.Atoi(said(key)[at])
		if err != nil {
			panic(err)
		}
		return n
	}
	image, most, down, over, per := number("image", 0), number("want", 0), number("down", 0), max(1, number("over", 0)), ""
	follows := number("follow", 0) != 0
	if follows {
		most, per = number("follow", 2), fmt.Sprint(number("follow", 0))
	}
	team := said("team")[0]
	unfit := image < 1 || image > 1000 || most > 10 || down > 10 || over > 10
	switch {
	case len(b.Name) > 16:
		return deskWant{}, 1
	case !slices.ContainsFunc(h.Teams, func(of impl.GateTeam) bool { return of.Name == team }):
		return deskWant{}, 2
	case number("follow", 1) != 0 || !follows && number("follow", 2) != 0:
		return deskWant{}, 4
	case unfit:
		return deskWant{}, 3
	}
	if most == 1 {
		down = 0
	}
	return deskWant{Name: b.Name, Team: team, Values: texts{fmt.Sprint(image), fmt.Sprint(most), fmt.Sprint(down), fmt.Sprint(over), per, ""}}, 0
}

// checkPlan says what a desk's sheet says, that it is new, that no argument is changed, and of what is wanted promise 57.
func checkPlan(t *testing.T, what string, h house, d desk, want deskPlan) {
	t.Helper()
	h = spread(h)
	houseWas := whole(h)
	got := impl.DeskPlanOf(h, d)
	if !same(got, want) {
		t.Errorf("%s: %+v: %+v, not %+v", what, d, got, want)
	}
	if read := deskPlanBy(h, d); !same(read, want) {
		t.Errorf("%s: %+v is read as %+v, not %+v", what, d, read, want)
	}
	if !same(whole(h), houseWas) {
		t.Errorf("%s: the house is changed", what)
	}
	newMemory(t, what, got, h, impl.DeskPlanOf(h, d))
	law := hallLawOf(h.Teams)
	for _, w := range got.Wants {
		o := impl.GateObject{Kind: "service", Name: w.Name, Team: w.Team, Values: w.Values}
		if code, _ := impl.GateCheck(law.Shapes, o); code != 0 || !same(impl.GateShaped(law.Shapes, law.Mends, o), o) || !isTeam(law, w.Team) {
			t.Errorf("promise 57: %s: %+v is wanted", what, w)
		}
	}
}

// deskPlanned is a plan: a part is a service that is wanted, its name, team and values, or a name and a code.
func deskPlanned(parts ...string) deskPlan {
	var plan deskPlan
	for _, part := range parts {
		words := strings.Fields(part)
		if len(words) == 3 {
			plan.Wants = append(plan.Wants, deskWant{Name: words[0], Team: words[1], Values: strings.Split(words[2], ",")})
			continue
		}
		code, err := strconv.Atoi(words[1])
		if err != nil {
			panic(err)
		}
		plan.Odds = append(plan.Odds, deskOdd{Name: words[0], Code: code})
	}
	return plan
}

func annsDesk(prefix, text string) desk {
	return desk{Who: "ann", Door: "d1", Prefix: prefix, Text: text}
}

// deskBlock is the text of a service with these lines.
func deskBlock(name string, lines ...string) string {
	return "service " + name + "\n" + strings.Join(append(lines, "end"), "\n") + "\n"
}

func TestDeskConstants(t *testing.T) {
	codes := []int{impl.DeskLong, impl.DeskNoTeam, impl.DeskUnfit, impl.DeskLeast, impl.DeskNothing, impl.DeskEnding, impl.DeskPoor, impl.DeskRefused, impl.DeskNone}
	if !slices.Equal(codes, []int{1, 2, 3, 4, 5, 6, 7, 8, 9}) {
		t.Errorf("what may be with a name: %v", codes)
	}
}

// deskNames are names, and texts that are none.
func deskNames() (is, isNot texts) {
	is = texts{"ann", "d1", "a-1", "-", "0", "abcdefghijklmnop", "qrstuvwxyz-01234", "5678", letters(15), letters(16)}
	isNot = texts{letters(17), letters(18), letters(20), letters(100), "ann ", " ann", "a nn", "Ann", "anN", "a_n", "a\x00", "ann\n", "a\xff", "é", "a.b", letters(16) + "\x00", letters(15) + "A"}
	for c := range 256 {
		word := string([]byte{byte(c)})
		if strings.Contains("abcdefghijklmnopqrstuvwxyz0123456789-", word) {
			is = append(is, word)
		} else {
			isNot = append(isNot, word, "a"+word)
		}
	}
	return is, isNot
}

func TestDeskOk(t *testing.T) {
	is, isNot := deskNames()
	ok := func(d desk, want bool) {
		t.Helper()
		if got := impl.DeskOk(d); got != want || deskIsOk(d) != want {
			t.Errorf("%+v is ok: %v", d, got)
		}
	}
	for _, text := range []string{"", "service web\nend\n", "service", "\x00\xff", strings.Repeat("a", 30000)} {
		ok(annsDesk("", text), true)
		ok(annsDesk("web", text), true)
		ok(annsDesk("Web", text), false)
	}
	for _, name := range is {
		ok(desk{Who: name, Door: "d1"}, true)
		ok(desk{Who: "ann", Door: name}, true)
		ok(desk{Who: "ann", Door: "d1", Prefix: name}, true)
		ok(desk{Who: name, Door: name, Prefix: name}, true)
	}
	for _, name := range isNot {
		ok(desk{Who: name, Door: "d1"}, false)
		ok(desk{Who: "ann", Door: name}, false)
		ok(desk{Who: "ann", Door: "d1", Prefix: name}, false)
		ok(desk{Who: "ann", Door: name, Prefix: "web"}, false)
	}
	ok(desk{}, false)
	ok(desk{Who: "ann"}, false)
	ok(desk{Door: "d1"}, false)
	ok(desk{Prefix: "web"}, false)
	ok(desk{Who: "ann", Prefix: "web"}, false)
}

func TestDeskPlanNotOk(t *testing.T) {
	web := deskBlock("web", "team dev")
	for _, text := range []string{"", web, deskBlock("web"), "service", strings.Repeat("#", 20001)} {
		for what, h := range hallBadHouses() {
			checkPlan(t, what, h, annsDesk("", text), deskPlan{})
		}
		for _, name := range []string{"", "Ann", "a b", letters(17)} {
			checkPlan(t, "a Who that is none", hallHouse(), desk{Who: name, Door: "d1", Text: text}, deskPlan{})
			checkPlan(t, "a Door that is none", hallHouse(), desk{Who: "ann", Door: name, Text: text}, deskPlan{})
		}
		for _, name := range []string{"Web", "w b", letters(17)} {
			checkPlan(t, "a Prefix that is none", hallHouse(), annsDesk(name, text), deskPlan{})
		}
	}
	checkPlan(t, "no house", house{}, annsDesk("", web), deskPlanned("web 2"))
	checkPlan(t, "a house without grants", house{Teams: hallHouse().Teams}, annsDesk("", web), deskPlanned("web dev 1,1,0,1,,"))
}

// With a fault there is nothing but the fault, the first one, whatever else stands there.
func TestDeskPlanFaults(t *testing.T) {
	web, odd := deskBlock("web", "team dev"), deskBlock("db")
	for _, c := range []struct {
		text string
		line int
		code int
	}{
		{web + "\"\n", 4, 1},
		{web + odd + "end\n" + web, 6, 2},
		{web + "zone a\nend\n", 4, 3},
		{web + "service Web\nend\n", 4, 4},
		{web + deskBlock("x", "image 2", "colour red"), 6, 5},
		{deskBlock("web", "team dev", "team lab"), 3, 6},
		{deskBlock("web", "want 1000001") + odd, 2, 7},
		{web + "service x\nteam dev\n", 6, 8},
		{web + odd + web, 6, 9},
		{sheetTextAsRead(sheetOf(manyBlocks("service", 60)...)) + web, 121, 10},
		{web + "berth a\n  room x\nend\n", 5, 7},
		{"team dev\n  copies 1\n  copies 1\nend\n" + web, 3, 6},
		{web + strings.Repeat("#", 20000), 0, 11},
		{web + strings.Repeat("\n", 398), 0, 11},
	} {
		for _, prefix := range []string{"", "web", "zed"} {
			checkPlan(t, "a fault", hallHouse(), annsDesk(prefix, c.text), deskPlan{Fault: sheetFault{Line: c.line, Code: c.code}})
		}
	}
}

func TestDeskPlanOrdinary(t *testing.T) {
	text := deskBlock("web", "team lab", "want 3", "image 7") + "team dev\n  copies 5\nend\n" + deskBlock("api", "over 2", "team dev", "follow 20 0 4") +
		"berth web\n  room 3\nend\n" + deskBlock("db") + "# the rest\n" + deskBlock("cron", `"team" "ops" # ours`)
	checkPlan(t, "several", hallHouse(), annsDesk("", text), deskPlanned("api dev 1,4,1,2,20,", "cron ops 1,1,0,1,,", "web lab 7,3,1,1,,", "db 2"))
	checkPlan(t, "one alone", hallHouse(), annsDesk("w", text), deskPlanned("web lab 7,3,1,1,,"))
	for _, d := range []desk{{Who: "eve", Door: "x", Text: text}, {Who: "d1", Door: "ann", Text: text}} {
		checkPlan(t, "somebody else's", hallHouse(), d, deskPlanned("api dev 1,4,1,2,20,", "cron ops 1,1,0,1,,", "web lab 7,3,1,1,,", "db 2"))
	}
	for _, text := range []string{"", "\n", "# nothing", "team dev\nend\n", "berth a\nend\nteam core\nend"} {
		for _, prefix := range []string{"", "a", "dev"} {
			checkPlan(t, "no services", hallHouse(), annsDesk(prefix, text), deskPlan{})
		}
	}
}

// What the values come to: each case is one service of dev.
func TestDeskPlanValues(t *testing.T) {
	for _, c := range []struct {
		lines string
		want  string
	}{
		{"", "dev 1,1,0,1,,"},
		{"image 1; want 1; down 1; over 0; follow 0 0 0", "dev 1,1,0,1,,"},
		{"want 2", "dev 1,2,1,1,,"},
		{"image 0", "3"},
		{"image 1", "dev 1,1,0,1,,"},
		{"image 1000", "dev 1000,1,0,1,,"},
		{"image 1001", "3"},
		{"image 1000000", "3"},
		{"want 0", "dev 1,0,1,1,,"},
		{"want 10", "dev 1,10,1,1,,"},
		{"want 11", "3"},
		{"want 1000000", "3"},
		{"want 2; down 0", "dev 1,2,0,1,,"},
		{"want 2; down 10", "dev 1,2,10,1,,"},
		{"want 2; down 11", "3"},
		{"down 0", "dev 1,1,0,1,,"},
		{"down 10", "dev 1,1,0,1,,"},
		{"down 11", "3"},
		{"want 0; down 7", "dev 1,0,7,1,,"},
		{"over 0", "dev 1,1,0,1,,"},
		{"over 1", "dev 1,1,0,1,,"},
		{"over 2", "dev 1,1,0,2,,"},
		{"over 10", "dev 1,1,0,10,,"},
		{"over 11", "3"},
		{"over 1000000", "3"},
		{"want 0; down 0; over 0", "dev 1,0,0,1,,"},
		{"want 7; follow 0 0 0", "dev 1,7,1,1,,"},
		{"want 7; follow 5 0 3", "dev 1,3,1,1,5,"},
		{"want 11; follow 5 0 3", "dev 1,3,1,1,5,"},
		{"want 1; follow 5 0 3; down 2", "dev 1,3,2,1,5,"},
		{"want 7; follow 5 0 1; down 2", "dev 1,1,0,1,5,"},
		{"want 7; follow 5 0 0", "dev 1,0,1,1,5,"},
		{"want 7; follow 1 0 10", "dev 1,10,1,1,1,"},
		{"want 7; follow 1 0 11", "3"},
		{"follow 1000000 0 2", "dev 1,2,1,1,1000000,"},
		{"follow 1 0 1000000", "3"},
		{"follow 0 0 1", "4"},
		{"follow 0 0 10; want 2", "4"},
		{"follow 0 0 1000000", "4"},
		{"follow 0 1 0", "4"},
		{"follow 0 1 1", "4"},
		{"follow 0 1000000 0", "4"},
		{"follow 5 1 3", "4"},
		{"follow 5 1000000 3", "4"},
		{"follow 5 3 3", "4"},
		{"follow 5 1 0", "4"},
		{"follow 5 1 11", "4"},
		{"follow 0 0 3; want 11", "4"},
		{"needs 0 1000000; where \"zone=east & ssd\"; apart zone; volume yes; pace 1 2 3; like ssd 5; like gpu -7", "dev 1,1,0,1,,"},
		{"pace 5 1 3", "dev 1,1,0,1,,"},
		{"team lab", "lab 1,1,0,1,,"},
		{"team ops; want 2", "ops 1,2,1,1,,"},
		{"team core", "2"},
		{"team de", "2"},
		{"team devs", "2"},
		{"team " + letters(20), "2"},
	} {
		lines := strings.Split(c.lines, "; ")
		if !strings.HasPrefix(c.lines, "team") {
			lines = append(lines, "team dev")
		}
		checkPlan(t, c.lines, hallHouse(), annsDesk("", deskBlock("web", lines...)), deskPlanned("web "+c.want))
	}
	checkPlan(t, "the team by default", hallHouse(), annsDesk("", deskBlock("web")), deskPlanned("web 2"))
	core := house{Teams: teamList{{Name: letters(16)}, {Name: "core"}}}
	text := deskBlock("web") + deskBlock("long", "team "+letters(16)) + deskBlock("longer", "team "+letters(17))
	checkPlan(t, "the team by default is there", core, annsDesk("", text), deskPlanned("long "+letters(16)+" 1,1,0,1,,", "web core 1,1,0,1,,", "longer 2"))
}

// Each of the four things that may be with a service, in every mix: the first of them is told.
func TestDeskPlanFirstOdd(t *testing.T) {
	for mask := range 16 {
		has := func(bit int) bool { return mask>>bit&1 == 1 }
		name, lines, want := "web", texts{"team dev"}, "web dev 1,1,0,1,,"
		if has(0) {
			lines, want = append(lines, "image 1001"), "web 3"
		}
		if has(1) {
			lines, want = append(lines, "follow 0 0 4"), "web 4"
		}
		if has(2) {
			lines[0], want = "team ghost", "web 2"
		}
		if has(3) {
			name = letters(17)
			want = name + " 1"
		}
		checkPlan(t, strings.Join(lines, "; "), hallHouse(), annsDesk("", deskBlock(name, lines...)), deskPlanned(want))
	}
}

func TestDeskPlanNames(t *testing.T) {
	for long := 1; long <= 20; long++ {
		for _, letter := range []string{"a", "-", "0"} {
			name := strings.Repeat(letter, long)
			want := deskPlanned(name + " dev 1,1,0,1,,")
			if long > 16 {
				want = deskPlanned(name + " 1")
			}
			checkPlan(t, "a name", hallHouse(), annsDesk("", deskBlock(name, "team dev")), want)
			checkPlan(t, "a name that begins so", hallHouse(), annsDesk(name[:min(long, 16)], deskBlock(name, "team dev")), want)
		}
	}
}

func TestDeskPlanPrefix(t *testing.T) {
	text := ""
	for _, name := range []string{"w", "we", "web", "web-", "web-1", "web-1-2", "webs", "xweb", "a", "web-" + letters(12), "web-" + letters(13)} {
		text += deskBlock(name, "team dev") + "team " + name + "\nend\nberth " + name + "\nend\n"
	}
	all := texts{"a", "w", "we", "web", "web-", "web-1", "web-1-2", "web-" + letters(12), "web-" + letters(13), "webs", "xweb"}
	for prefix, many := range map[string]int{"": 11, "a": 1, "w": 9, "we": 8, "web": 7, "web-": 5, "web-1": 2, "web-1-2": 1, "web-1-3": 0, "webs": 1, "webss": 0, "x": 1, "eb": 0, "web-a": 2, "web-" + letters(12): 2, "z": 0, "-": 0} {
		var parts texts
		for _, name := range all {
			if len(name) >= len(prefix) && name[:len(prefix)] == prefix {
				parts = append(parts, map[bool]string{false: name + " dev 1,1,0,1,,", true: name + " 1"}[len(name) > 16])
			}
		}
		if len(parts) != many {
			t.Errorf("%q: %q", prefix, parts)
		}
		checkPlan(t, "names that begin with "+prefix, hallHouse(), annsDesk(prefix, text), deskPlanned(parts...))
	}
}

// As many services as a sheet may have, in the order of their names, whatever order they are written in; each third one is odd.
func TestDeskPlanOrder(t *testing.T) {
	for _, step := range []int{1, 7, 59} {
		var blocks, parts texts
		for i := range 60 {
			blocks = append(blocks, deskBlock("s"+strconv.Itoa(10+i*step%60), "team "+map[bool]string{true: "ghost", false: "ops"}[i*step%60%3 == 0]))
			parts = append(parts, "s"+strconv.Itoa(10+i)+map[bool]string{true: " 2", false: " ops 1,1,0,1,,"}[i%3 == 0])
		}
		checkPlan(t, "sixty services", hallHouse(), annsDesk("", strings.Join(blocks, "")), deskPlanned(parts...))
	}
}
