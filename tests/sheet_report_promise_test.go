package tests

import (
	"strings"
	"testing"

	"loop.example/wharfdesk/impl"
)

// Promise 55 over all pairs of small sheets of one kind, and a share of those of two.
func TestSheetPromise55AllSmall(t *testing.T) {
	t.Parallel()
	for _, few := range [][]sheet{fewTeams(), fewBerths()} {
		for _, a := range few {
			for _, b := range few {
				checkReport(t, "two small sheets", impl.SheetPrint(a), impl.SheetPrint(b))
			}
		}
	}
	both := fewBoth()
	for i, a := range both {
		for j := i % 5; j < len(both); j += 5 {
			checkReport(t, "two small sheets", impl.SheetPrint(a), impl.SheetPrint(both[j]))
		}
	}
}

// Promise 55 over all pairs of texts of a few lines, most of which have a fault.
func TestSheetPromise55AllShortTexts(t *testing.T) {
	t.Parallel()
	lines := texts{"team a", "berth a", "end", "room 1000", "room 5", "mark m", "\""}
	list := texts{""}
	for from, more := 0, 3; more > 0; more-- {
		to := len(list)
		for _, text := range list[from:to] {
			for _, line := range lines {
				list = append(list, text+line+"\n")
			}
		}
		from = to
	}
	good := texts{"", "team a\nend", "team a\nroom 5\nend", "berth a\nmark m\nend", "team a\nend\nberth a\nend", "berth a\nroom 1000\nend"}
	count := map[bool]int{}
	for i, text := range list {
		for _, other := range append(good, list[(i*7+3)%len(list)]) {
			count[checkReport(t, "short texts", text, other) == "the same\n"]++
			checkReport(t, "short texts", other, text)
		}
	}
	if count[true] < 5 || count[false] < 1000 {
		t.Errorf("what is the same, or not: %v", count)
	}
}

// Promise 55 over texts that are made up: the same sheet in any words, filled or trimmed, and others that are like it.
func TestSheetPromise55MadeUp(t *testing.T) {
	t.Parallel()
	d := dice(55)
	count := map[string]int{}
	for n := range 2000 {
		s := d.sheetSaying(pick(&d, 0, 1, 2, 3, 5))
		if n%40 == 0 {
			s = d.smallSheet()
		}
		other := pick(&d, s, impl.SheetFill(s), impl.SheetTrim(s), d.sheetLike(s, 2), d.sheetLike(s, 0), d.sheetLike(s, 0), d.sheetLike(s, 0))
		a, b := strings.Join(d.linesAnyhow(s), "\n"), strings.Join(d.linesAnyhow(other), "\n")+pick(&d, "", "\n")
		got := checkReport(t, "made up", a, b)
		for _, beginning := range []string{"the same\n", "- ", "+ ", "~ "} {
			if strings.HasPrefix(got, beginning) || strings.Contains(got, "\n"+beginning) {
				count[beginning]++
			}
		}
		if strings.Contains(got, ": no ") {
			count["no"]++
		}
	}
	for _, what := range []string{"the same\n", "- ", "+ ", "~ ", "no"} {
		if count[what] < 50 {
			t.Errorf("too few: %v", count)
		}
	}
}

// Texts that are spoilt, on one side or both.
func TestSheetReportOfSpoilt(t *testing.T) {
	t.Parallel()
	d := dice(4444)
	count := map[string]int{}
	for range 3000 {
		s := d.sheetSaying(3)
		a, b := d.linesAnyhow(s), d.linesAnyhow(d.sheetLike(s, 1))
		if d.roll(2) == 0 {
			a = d.spoilLines(a)
		}
		if d.roll(2) == 0 {
			b = d.spoilLines(b)
		}
		got := checkReport(t, "spoilt texts", strings.Join(a, "\n"), strings.Join(b, "\n"))
		age, _, fault := strings.Cut(got, ":")
		if fault && (age == "old" || age == "new") {
			count[age]++
		} else {
			count["none"]++
		}
	}
	for _, what := range []string{"old", "new", "none"} {
		if count[what] < 300 {
			t.Errorf("faults: %v", count)
		}
	}
}

// Texts of any bytes.
func TestSheetReportAnyBytes(t *testing.T) {
	d := dice(4445)
	for range 1500 {
		a, b := d.sheetBytes(d.roll(40)), d.sheetBytes(d.roll(40))
		checkReport(t, "any bytes", a, b)
		checkReport(t, "any bytes", "team a\nend\n"+a, "team a\nend\n")
		checkReport(t, "any bytes in a comment", "#"+strings.ReplaceAll(a, "\n", ""), "#"+strings.ReplaceAll(b, "\n", ""))
	}
}
