package tests

import (
	"fmt"
	"slices"
	"strings"
	"testing"

	"loop.example/wharfdesk/impl"
)

// deskWritten are the texts in which a sheet is said: as it is, filled and trimmed, as far as there are such.
func deskWritten(s sheet) texts {
	var list texts
	for _, other := range []sheet{s, impl.SheetFill(s), impl.SheetTrim(s)} {
		if text := impl.SheetPrint(other); text != "" || len(s.Blocks) == 0 {
			list = append(list, text)
		}
	}
	return list
}

// checkSameWritten is promise 57, and the plan as the document says it: of a text, and of the texts in which its sheet is said otherwise.
func checkSameWritten(t *testing.T, what string, h house, d desk) deskPlan {
	t.Helper()
	plan := deskPlanBy(h, d)
	checkPlan(t, what, h, d, plan)
	s, fault := sheetParseAsRead(d.Text)
	if fault.Code != 0 {
		return plan
	}
	for _, text := range deskWritten(s) {
		d.Text = text
		if got := impl.DeskPlanOf(h, d); !same(got, plan) {
			t.Errorf("promise 57: %s: %q: %+v, not %+v", what, text, got, plan)
		}
	}
	return plan
}

// deskSaidOf is what a plan says of a name: what is wanted, and what is with it.
func deskSaidOf(p deskPlan, name string) deskPlan {
	p.Wants = slices.DeleteFunc(slices.Clone(p.Wants), func(w deskWant) bool { return w.Name != name })
	p.Odds = slices.DeleteFunc(slices.Clone(p.Odds), func(o deskOdd) bool { return o.Name != name })
	return p
}

// checkPlanOver is promise 58; it tells of how many names the lower sheet, the upper one, and both say something. The desk's Text is not looked at.
func checkPlanOver(t *testing.T, what string, h house, d desk, under, over sheet) (lower, upper, both int) {
	t.Helper()
	plan := func(s sheet) deskPlan {
		d.Text = sheetTextAsRead(s)
		return impl.DeskPlanOf(h, d)
	}
	laid := sheetOverAsRead(under, over)
	got, below, above := plan(laid), plan(under), plan(over)
	for _, b := range laid.Blocks {
		if b.Kind != "service" {
			continue
		}
		_, isUnder := blockIn(under, "service", b.Name)
		_, isOver := blockIn(over, "service", b.Name)
		said := deskSaidOf(got, b.Name)
		switch {
		case isUnder && isOver:
			both++
		case isUnder && !same(said, deskSaidOf(below, b.Name)):
			t.Errorf("promise 58: %s: %q under %q: of %s is said %+v, not %+v", what, under, over, b.Name, said, below)
		case isUnder:
			lower++
		case isOver && !same(said, deskSaidOf(above, b.Name)):
			t.Errorf("promise 58: %s: %q under %q: of %s is said %+v, not %+v", what, under, over, b.Name, said, above)
		case isOver:
			upper++
		}
	}
	return lower, upper, both
}

// deskEachLine goes over all that may be said in one line of a key, at the edges, and of its default.
func deskEachLine(key string) texts {
	said := map[string]texts{
		"team":   {"dev", "ghost"},
		"image":  {"0", "1000", "1001"},
		"want":   {"0", "1", "10", "11"},
		"down":   {"0", "10", "11"},
		"over":   {"0", "1", "10", "11"},
		"follow": {"0 0 0", "0 0 3", "0 1 0", "5 0 0", "5 0 1", "5 0 10", "5 0 11", "5 1 3"},
	}
	lines := texts{""}
	for _, words := range said[key] {
		lines = append(lines, key+" "+words)
	}
	return lines
}

// Every mix of what matters, many services a sheet: the plan is as the document says, however the sheet is written.
func TestDeskPromise57AllMixes(t *testing.T) {
	t.Parallel()
	mixes := []texts{nil}
	for _, key := range []string{"team", "image", "want", "down", "over", "follow"} {
		var longer []texts
		for _, lines := range mixes {
			for _, line := range deskEachLine(key) {
				longer = append(longer, slices.Concat(lines, texts{line}))
			}
		}
		mixes = longer
	}
	wants, odds := 0, map[int]int{}
	for some := range slices.Chunk(mixes, 40) {
		text := ""
		for k, lines := range some {
			text += deskBlock(fmt.Sprintf("s%d", k), slices.DeleteFunc(lines, func(line string) bool { return line == "" })...)
		}
		plan := checkSameWritten(t, "a mix", house{Teams: teamList{{Name: "core"}, {Name: "dev"}}}, annsDesk("", text))
		if t.Failed() {
			t.FailNow()
		}
		wants += len(plan.Wants)
		for _, odd := range plan.Odds {
			odds[odd.Code]++
		}
	}
	if len(mixes) != 3*4*5*4*5*9 || wants < 1000 || odds[2] < 1000 || odds[3] < 1000 || odds[4] < 1000 {
		t.Errorf("of %d services %d are wanted, and odd are %v", len(mixes), wants, odds)
	}
}

// deskLines are those of a service that is mostly wanted in a house: each key is said or left out.
func (d *dice) deskLines(h house) []sheetLine {
	lines := []sheetLine{said("team", pick(d, append(h.Teams, impl.GateTeam{Name: "ghost"})...).Name)}
	if d.roll(12) == 0 {
		lines = nil
	}
	line := func(key string, words ...string) {
		if d.roll(2) == 0 {
			lines = append(lines, said(key, words...))
		}
	}
	line("image", pick(d, "1", "2", d.number(1, 5), pick(d, "0", "1000", "1001")))
	line("want", pick(d, "0", "1", d.number(1, 5), d.number(0, 12)))
	line("down", pick(d, "0", "1", d.number(0, 3), d.number(0, 12)))
	line("over", pick(d, "0", "1", d.number(0, 3), d.number(0, 12)))
	if d.roll(3) == 0 {
		line("follow", pick(d, "0", "5", "20"), pick(d, "0", "0", "0", "0", "1"), pick(d, "0", "0", "2", "4", "10"))
	}
	if d.roll(6) == 0 {
		line("needs", "2", "3")
		line("like", "ssd", "5")
		line("pace", "1", "2", "3")
	}
	return lines
}

// deskSheet is a valid sheet of services, and of a few other things.
func (d *dice) deskSheet(h house, most int) sheet {
	var blocks []sheetBlock
	for range d.roll(most + 1) {
		b := blockOf("service", pick(d, append(hallNames, letters(16), letters(17), "web-"+letters(12), "web-"+letters(14))...), d.deskLines(h)...)
		if d.roll(8) == 0 {
			b = d.sheetBlockOf(pick(d, sheetKinds()...), b.Name)
		}
		if _, there := blockIn(sheetOf(blocks...), b.Kind, b.Name); !there {
			blocks = append(blocks, b)
		}
	}
	return sheetInOrder(blocks)
}

// deskOf is a desk that is mostly ok, with a text that mostly has no fault.
func (d *dice) deskOf(s sheet) desk {
	of := desk{Who: pick(d, "ann", "ann", "ann", "ann", "bob", "cy"), Door: pick(d, "d1", "d2", "d3", "d3"), Prefix: pick(d, "", "", "", "a", "w", "web")}
	lines := d.linesAnyhow(s)
	if d.roll(20) == 0 {
		lines = d.spoilLines(lines)
	}
	of.Text = strings.Join(lines, "\n")
	if d.roll(30) == 0 {
		*pick(d, &of.Who, &of.Door, &of.Prefix) = pick(d, "", "A", "a b", letters(16), letters(17))
	}
	return of
}

// Promises 57 and 58, over made-up houses, desks and sheets.
func TestDeskPromises57And58MadeUp(t *testing.T) {
	t.Parallel()
	d := dice(5758)
	faults, notOk, wants, odds := 0, 0, 0, map[int]int{}
	var only [3]int
	for range 1500 {
		h := d.hallTown()
		if d.roll(20) == 0 {
			h = d.hallAnyHouse()
		}
		s := d.deskSheet(h, 8)
		of := d.deskOf(s)
		plan := checkSameWritten(t, "made up", h, of)
		lower, upper, both := checkPlanOver(t, "made up", h, of, s, d.deskSheet(h, 8))
		if t.Failed() {
			t.FailNow()
		}
		only[0], only[1], only[2] = only[0]+lower, only[1]+upper, only[2]+both
		wants += len(plan.Wants)
		for _, odd := range plan.Odds {
			odds[odd.Code]++
		}
		if plan.Fault.Code != 0 {
			faults++
		}
		if !hallHouseIsOk(h) || !deskIsOk(of) {
			notOk++
		}
	}
	if faults < 30 || notOk < 20 || wants < 1000 || odds[1] < 100 || odds[2] < 100 || odds[3] < 100 || odds[4] < 30 {
		t.Errorf("%d faults, %d not ok, %d wanted, odd: %v", faults, notOk, wants, odds)
	}
	if slices.Min(only[:]) < 1000 {
		t.Errorf("said by the lower sheet, the upper one, and both: %v", only)
	}
}

// Any text at all.
func TestDeskPlanAnyText(t *testing.T) {
	t.Parallel()
	d := dice(4545)
	faults := 0
	for range 1500 {
		text := d.sheetBytes(d.roll(60))
		if d.roll(2) == 0 {
			text = sheetTextAsRead(d.madeUpSheet(4))
		}
		if plan := checkSameWritten(t, "any text", hallHouse(), annsDesk(pick(&d, "", "a", "web"), text)); plan.Fault.Code != 0 {
			faults++
		}
	}
	if faults < 300 {
		t.Errorf("%d faults", faults)
	}
}

// Promise 58 of sheets that have the same name in several kinds, and of names that one sheet alone has.
func TestDeskPromise58Ordinary(t *testing.T) {
	under := sheetFrom(t, deskBlock("api", "team dev", "want 3")+deskBlock("db", "team ghost")+deskBlock("web", "team lab")+"team top\nend\n")
	over := sheetFrom(t, deskBlock("top", "team ops", "image 4")+deskBlock("web", "want 2")+deskBlock("zed", "team dev", "want 11")+"berth api\nend\nberth db\nend\n")
	for _, prefix := range []string{"", "a", "w", "z"} {
		lower, upper, both := checkPlanOver(t, "two sheets", hallHouse(), annsDesk(prefix, ""), under, over)
		if lower != 2 || upper != 2 || both != 1 {
			t.Errorf("%q: %d, %d, %d", prefix, lower, upper, both)
		}
	}
	text := sheetTextAsRead(impl.SheetOver(under, over))
	checkPlan(t, "laid over", hallHouse(), annsDesk("", text), deskPlanned("api dev 1,3,1,1,,", "top ops 4,1,0,1,,", "web lab 1,2,1,1,,", "db 2", "zed 3"))
}
