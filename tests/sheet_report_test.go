package tests

import (
	"fmt"
	"slices"
	"strings"
	"testing"

	"loop.example/wharfdesk/impl"
)

// sheetWhats are the document's words for each code of a fault.
func sheetWhats() texts {
	return texts{"", "a word that is none", "a line outside of blocks", "no such kind", "no such name", "no such key", "said twice", "not what the key takes", "a block that is not ended", "a block again", "too many", "too long"}
}

// sheetReportAsRead goes by the document's words.
func sheetReportAsRead(a, b string) string {
	var read [2]sheet
	for i, text := range []string{a, b} {
		s, fault := sheetParseAsRead(text)
		age := texts{"old", "new"}[i]
		switch {
		case fault.Code == 11:
			return age + ": too long\n"
		case fault.Code != 0:
			return fmt.Sprintf("%s:%d: %s\n", age, fault.Line, sheetWhats()[fault.Code])
		}
		read[i] = sheetFillAsRead(s)
	}
	report := ""
	for _, c := range sheetDiffAsRead(read[0], read[1]) {
		report += sheetChangeLine(c) + "\n"
	}
	if report == "" {
		return "the same\n"
	}
	return report
}

// sheetChangeLine is a change as a line of a report.
func sheetChangeLine(c sheetChange) string {
	head := texts{"", "-", "+", "~", "~"}[c.What] + " " + c.Kind + " " + c.Name
	var told texts
	if c.What == 4 {
		told = append(told, "no "+c.Key)
	}
	for _, line := range c.Lines {
		words := texts{line.Key}
		for _, word := range line.Words {
			words = append(words, sheetWrittenAsRead(word))
		}
		told = append(told, strings.Join(words, " "))
	}
	if len(told) == 0 {
		return head
	}
	return head + ": " + strings.Join(told, ", ")
}

// checkReport says that a report is as the document says, the same each time, and promise 55.
func checkReport(t *testing.T, what, a, b string) string {
	t.Helper()
	got := impl.SheetReport(a, b)
	if want := sheetReportAsRead(a, b); got != want {
		t.Errorf("%s: of %.600q and %.600q the report is %.600q, not %.600q", what, a, b, got, want)
	}
	if again := impl.SheetReport(a, b); again != got {
		t.Errorf("%s: the report is %.600q, and then %.600q", what, got, again)
	}
	old, oldFault := impl.SheetParse(a)
	now, nowFault := impl.SheetParse(b)
	if oldFault.Code == 0 && nowFault.Code == 0 && (got == "the same\n") != same(impl.SheetFill(old), impl.SheetFill(now)) {
		t.Errorf("promise 55: %s: %.600q and %.600q: %.600q", what, a, b, got)
	}
	return got
}

// checkReports says what a report is; of each text and itself it is that they are the same, or the fault of the old one.
func checkReports(t *testing.T, what, a, b, want string) {
	t.Helper()
	if got := checkReport(t, what, a, b); got != want {
		t.Errorf("%s: %.600q and %.600q: %.600q, not %.600q", what, a, b, got, want)
	}
	checkReport(t, what+", the other way round", b, a)
	for _, text := range []string{a, b} {
		if got := checkReport(t, what+", to itself", text, text); got != "the same\n" && !strings.HasPrefix(got, "old:") {
			t.Errorf("%s: to itself: %.600q", what, got)
		}
	}
}

func TestSheetReportExample(t *testing.T) {
	a := "service web\n  want 3\n  like ssd 5   # soon\nend\nteam core\nend\n"
	b := "service web\n  image 2\n  want 3\nend\nservice db\n  volume yes\n  where \"zone=east & ssd\"\nend\n"
	checkReports(t, "the document's example", a, b, `- team core
+ service db: team core, image 1, want 1, down 1, over 0, needs 1 1, where "zone=east & ssd", apart none, volume yes, follow 0 0 0, pace 0 0 0
~ service web: image 2
~ service web: no like
`)
	checkReports(t, "the example, the other way round", b, a, `- service db
~ service web: image 1
~ service web: like ssd 5
+ team core: copies 100, room 1000
`)
}

// Each kind of line of a report.
func TestSheetReportLines(t *testing.T) {
	for _, c := range []struct{ what, a, b, want string }{
		{"nothing", "", "", "the same\n"},
		{"one more", "", "team a\nend", "+ team a: copies 100, room 1000\n"},
		{"one less", "team a\nroom 5\nend", "", "- team a\n"},
		{"another team", "team a\nend", "team b\nend", "- team a\n+ team b: copies 100, room 1000\n"},
		{"a team that says something", "", "team a\nroom 5\nend", "+ team a: copies 100, room 5\n"},
		{"a berth", "", "berth a\nend", "+ berth a: zone z, room 100, hold 100\n"},
		{"a berth with marks", "", "berth a\nmark m\nmark l\nend", "+ berth a: zone z, room 100, hold 100, mark l, mark m\n"},
		{"a service", "", "service a\nend", "+ service a: team core, image 1, want 1, down 1, over 0, needs 1 1, where \"\", apart none, volume no, follow 0 0 0, pace 0 0 0\n"},
		{"a service with likes", "", "service a\nlike b 1\nlike \"\" -1\nend", "+ service a: team core, image 1, want 1, down 1, over 0, needs 1 1, where \"\", like \"\" -1, like b 1, apart none, volume no, follow 0 0 0, pace 0 0 0\n"},
		{"a line more", "team a\nend", "team a\nroom 5\nend", "~ team a: room 5\n"},
		{"a line less", "team a\nroom 5\nend", "team a\nend", "~ team a: room 1000\n"},
		{"another line", "team a\nroom 5\nend", "team a\nroom 6\nend", "~ team a: room 6\n"},
		{"two lines", "team a\nroom 5\nend", "team a\ncopies 6\nend", "~ team a: copies 6\n~ team a: room 1000\n"},
		{"one mark more", "berth a\nmark m\nend", "berth a\nmark m\nmark l\nend", "~ berth a: mark l, mark m\n"},
		{"one mark less", "berth a\nmark m\nmark l\nend", "berth a\nmark m\nend", "~ berth a: mark m\n"},
		{"no mark any longer", "berth a\nmark m\nend", "berth a\nend", "~ berth a: no mark\n"},
		{"no likes any longer", "service a\nlike b 1\nlike c 1\nend", "service a\nend", "~ service a: no like\n"},
		{"the first likes", "service a\nend", "service a\nlike c 1\nlike b -1\nend", "~ service a: like b -1, like c 1\n"},
		{"three words", "service a\nend", "service a\nfollow 1 2 3\nend", "~ service a: follow 1 2 3\n"},
		{"another kind", "team a\nroom 5\nend", "berth a\nroom 5\nend", "- team a\n+ berth a: zone z, room 5, hold 100\n"},
		{"all sorts", "team a\nend\nteam b\nroom 1\nend\nberth z\nend\nservice s\nlike a 1\nend", "team b\nend\nteam c\nend\nberth y\nend\nservice s\nwant 2\nend",
			"- berth z\n- team a\n+ berth y: zone z, room 100, hold 100\n~ service s: want 2\n~ service s: no like\n~ team b: room 1000\n+ team c: copies 100, room 1000\n"},
	} {
		checkReports(t, c.what, c.a, c.b, c.want)
	}
}

// Texts that say the same in other words, in another order, or leave out what is so by default.
func TestSheetReportTheSame(t *testing.T) {
	for _, list := range []texts{
		{"", "\n", "\n\n\n", "# nothing", "   ", "  # team a\n\n#end"},
		{"team a\nend", "team a\nend\n", "\"team\" \"a\"\n\"end\"", "  team   a # b\n\n   end   # c\n\n", "team a\nroom 1000\nend", "team a\ncopies 100\nend", "team a\nroom 1000\ncopies 100\nend", "team a\ncopies \"100\"\n\"room\" \"\\31000\"\nend"},
		{"berth b\nmark m\nmark l\nend\nteam a\nend", "team a\nend\nberth b\nmark l\nmark m\nend", "team a\nroom 1000\nend\nberth b\nhold 100\nmark l\nzone z\nmark m\nend"},
		{"service s\nend", "service s\nteam core\nimage 1\nwant 1\ndown 1\nover 0\nneeds 1 1\nwhere \"\"\napart none\nvolume no\nfollow 0 0 0\npace 0 0 0\nend", "service s\npace 0 0 0\nend", "service s\nwhere \"\"\nend"},
		{"service s\nlike \"a b\" 1\nend", "service s\nlike \"a\\20b\" \"1\"\nend", "service s\n\"like\" \"\\61 \\62\" 1\nover 0\nend"},
	} {
		for _, a := range list {
			for _, b := range list {
				checkReports(t, "the same", a, b, "the same\n")
			}
		}
	}
	for _, c := range []struct{ a, b string }{{"team a\nend", "team a\nroom 999\nend"}, {"team a\nend", ""}, {"team a\nend", "berth a\nend"}, {"service s\nend", "service s\nwhere \" \"\nend"}, {"service s\nlike a 1\nend", "service s\nlike a -1\nend"}} {
		if checkReport(t, "not the same", c.a, c.b) == "the same\n" || checkReport(t, "not the same", c.b, c.a) == "the same\n" {
			t.Errorf("%q and %q", c.a, c.b)
		}
	}
}

// Words are told as they are printed.
func TestSheetReportQuotes(t *testing.T) {
	for word, want := range map[string]string{
		"": `""`, " ": `" "`, "a": "a", "a b": `"a b"`, "#": `"#"`, `"`: `"\22"`, `\`: `"\5c"`, "\n": `"\0a"`, "a\nb": `"a\0ab"`, "\x00": `"\00"`, "\xff": `"\ff"`, "é": `"\c3\a9"`, ",": ",", "a, b": `"a, b"`, ": no": `": no"`,
	} {
		s := sheetOf(blockOf("service", "a", said("where", word), said("like", word, "-5"), said("like", word+"z", "5")))
		two := sheetWrittenAsRead(word + "z")
		checkReports(t, "words in quotes", "service a\nwhere x\nend", impl.SheetPrint(s), fmt.Sprintf("~ service a: where %s\n~ service a: like %s -5, like %s 5\n", want, want, two))
		checkReports(t, "words in quotes, of a new block", "", impl.SheetPrint(s), fmt.Sprintf("+ service a: team core, image 1, want 1, down 1, over 0, needs 1 1, where %s, like %s -5, like %s 5, apart none, volume no, follow 0 0 0, pace 0 0 0\n", want, want, two))
	}
	for c := range 256 {
		for _, word := range []string{sheetText(c), "a" + sheetText(c), strings.Repeat(sheetText(c), 200)} {
			text := impl.SheetPrint(sheetOf(blockOf("service", "a", said("like", word, "0"))))
			checkReports(t, "each byte", "service a\nend", text, "~ service a: like "+sheetWrittenAsRead(word)+" 0\n")
		}
	}
}

// Each key of each kind, from each of some words to others.
func TestSheetReportEachKey(t *testing.T) {
	eachSheetRule(func(kind string, rule impl.SheetRule) {
		say := func(n int) string {
			return kind + " x\n" + rule.Key + " " + sheetJoined(sheetFitting(rule, n), " ") + "\nend"
		}
		for n := range 12 {
			want := "~ " + kind + " x: " + rule.Key + " " + sheetJoined(sheetFitting(rule, n+1), " ") + "\n"
			if same(sheetFitting(rule, n), sheetFitting(rule, n+1)) {
				want = "the same\n"
			}
			if a, b := say(n), say(n+1); !strings.Contains(b, "\"") {
				checkReports(t, rule.Key, a, b, want)
			} else {
				checkReport(t, rule.Key, a, b)
			}
			checkReport(t, rule.Key, say(n), kind+" x\nend")
			checkReport(t, rule.Key, kind+" x\nend", say(n))
		}
	})
}

// sheetFaultTexts are texts with each fault, and what is told of it behind `old` or `new`.
func sheetFaultTexts() (list, want texts) {
	add := func(text string, line, code int) {
		list = append(list, text)
		told := fmt.Sprintf(":%d: %s\n", line, sheetWhats()[code])
		if code == 11 {
			told = ": too long\n"
		}
		want = append(want, told)
	}
	for _, f := range append(sheetFaultyOutside(), sheetFaultyInside()...) {
		add(strings.Join(append(slices.Clone(f.ahead), f.line), "\n"), len(f.ahead)+1, f.code)
	}
	add("team a", 2, 8)
	add("team a\n", 2, 8)
	add("team a\n\n\n", 4, 8)
	add("team a\nend\nberth b\nmark m\n# end", 6, 8)
	add("team a"+strings.Repeat("\n", 400), 401, 8)
	add(strings.Repeat("\n", 401), 0, 11)
	add(strings.Repeat("#", 20001), 0, 11)
	add("zip\n"+strings.Repeat("#", 20001), 0, 11)
	add("team a\nend"+strings.Repeat("\n", 401), 0, 11)
	return list, want
}

// Each fault in the old text and in the new one.
func TestSheetReportFaults(t *testing.T) {
	list, want := sheetFaultTexts()
	for i, text := range list {
		for _, good := range []string{"", "team a\nend", "service s\nwhere x\nend\n"} {
			checkReports(t, "a fault in the old text", text, good, "old"+want[i])
			checkReports(t, "a fault in the new text", good, text, "new"+want[i])
		}
	}
	seen := map[string]bool{}
	for _, told := range want {
		_, what, _ := strings.Cut(told, ": ")
		seen[what] = true
	}
	if len(seen) != 11 {
		t.Errorf("of each code: %v", seen)
	}
}

// With a fault in both it is the old text's that is told, whichever stands further ahead.
func TestSheetReportFaultsInBoth(t *testing.T) {
	t.Parallel()
	list, want := sheetFaultTexts()
	for i, a := range list {
		for j := i % 4; j < len(list); j += 4 {
			if got := impl.SheetReport(a, list[j]); got != "old"+want[i] {
				t.Errorf("%.300q and %.300q: %q", a, list[j], got)
			}
		}
		checkReports(t, "one fault in both", a, a, "old"+want[i])
	}
}

// Texts of just so many bytes and lines as may be, and one more.
func TestSheetReportTooLong(t *testing.T) {
	fill := func(text string, size int) string { return text + strings.Repeat("#", size-len(text)) }
	block := "team a\nend\n"
	for _, c := range []struct{ what, text, want string }{
		{"as many bytes as may be", fill(block, 20000), "the same\n"},
		{"one byte more", fill(block, 20001), ": too long\n"},
		{"as many lines as may be", block + strings.Repeat("\n", 398), "the same\n"},
		{"as many lines as may be, the last one without a newline", block + strings.Repeat("\n", 397) + "#", "the same\n"},
		{"one line more", block + strings.Repeat("\n", 399), ": too long\n"},
		{"one line more, without a newline", block + strings.Repeat("\n", 398) + "#", ": too long\n"},
		{"far too long", fill(block, 1<<22), ": too long\n"},
		{"far too many lines", block + strings.Repeat("\n", 1<<20), ": too long\n"},
	} {
		for age, told := range map[string]string{"old": impl.SheetReport(c.text, block), "new": impl.SheetReport(block, c.text)} {
			want := c.want
			if want != "the same\n" {
				want = age + want
			}
			if told != want {
				t.Errorf("%s: %s: %q", c.what, age, told)
			}
		}
		checkReport(t, c.what, c.text, block)
	}
}

// As many blocks as there may be, all gone and all new; the sheet that is told is longer than a text may be.
func TestSheetReportGreat(t *testing.T) {
	all := manyBlocks("service", 120)
	a, b := impl.SheetPrint(sheetOf(all[:60]...)), impl.SheetPrint(sheetOf(all[60:]...))
	got := checkReport(t, "sixty gone, and sixty new", a, b)
	lines := sheetLinesAsRead(got)
	if len(lines) != 120 || lines[0] != "- service n0000" || lines[59] != "- service n0059" || !strings.HasPrefix(lines[60], "+ service n0060: team core, ") || !strings.HasPrefix(lines[119], "+ service n0119: ") {
		t.Errorf("%d lines: %.600q", len(lines), got)
	}
	for _, kind := range sheetKinds() {
		blocks := manyBlocks(kind, 60)
		for i := range blocks {
			rule := sheetTable()[kind][1]
			blocks[i].Lines = []sheetLine{said(rule.Key, fmt.Sprint(2000+i))}
		}
		got := checkReport(t, "sixty are others", impl.SheetPrint(sheetOf(manyBlocks(kind, 60)...)), impl.SheetPrint(sheetOf(blocks...)))
		if strings.Count(got, "\n") != 60 || strings.Count(got, "~ "+kind+" ") != 60 {
			t.Errorf("%.600q", got)
		}
	}
	for kind, key := range map[string]string{"berth": "mark", "service": "like"} {
		none, ten := kind+" x\nend", impl.SheetPrint(sheetOf(blockOf(kind, "x", manyLines(key, 10)...)))
		checkReports(t, "ten lines less", ten, none, "~ "+kind+" x: no "+key+"\n")
		if got := checkReport(t, "ten lines more", none, ten); strings.Count(got, ", ") != 9 || strings.Count(got, key+" m") != 10 || strings.Count(got, "\n") != 1 {
			t.Errorf("%q", got)
		}
	}
}
