package tests

import (
	"fmt"
	"slices"
	"strings"
	"testing"

	"loop.example/wharfdesk/impl"
)

type sheetChange = impl.SheetChange

// Changes of a block, whose kind and name are one text.
func goneBlock(head string) sheetChange {
	kind, name, _ := strings.Cut(head, " ")
	return sheetChange{What: 1, Kind: kind, Name: name}
}

func newBlock(head string, lines ...sheetLine) sheetChange {
	c := goneBlock(head)
	c.What, c.Lines = 2, lines
	return c
}

func setLines(head, key string, lines ...sheetLine) sheetChange {
	c := newBlock(head, lines...)
	c.What, c.Key = 3, key
	return c
}

func unsetLines(head, key string) sheetChange {
	c := goneBlock(head)
	c.What, c.Key = 4, key
	return c
}

// shown is the beginning of a list of changes, whatever bytes are in it.
func shown(list []sheetChange) string {
	return fmt.Sprintf("%.600q", fmt.Sprintf("%+v", list))
}

// linesWith are the lines of a key.
func linesWith(key string, lines []sheetLine) []sheetLine {
	var list []sheetLine
	for _, line := range lines {
		if line.Key == key {
			list = append(list, line)
		}
	}
	return list
}

// sheetDiffAsRead goes by the document's words.
func sheetDiffAsRead(a, b sheet) []sheetChange {
	if !sheetValidAsRead(a) || !sheetValidAsRead(b) {
		return nil
	}
	var list []sheetChange
	for _, old := range a.Blocks {
		if _, there := blockIn(b, old.Kind, old.Name); !there {
			list = append(list, goneBlock(old.Kind+" "+old.Name))
		}
	}
	for _, now := range b.Blocks {
		head := now.Kind + " " + now.Name
		old, there := blockIn(a, now.Kind, now.Name)
		if !there {
			list = append(list, newBlock(head, now.Lines...))
			continue
		}
		for _, rule := range sheetTableRead[now.Kind] {
			is := linesWith(rule.Key, now.Lines)
			switch {
			case same(linesWith(rule.Key, old.Lines), is):
			case len(is) > 0:
				list = append(list, setLines(head, rule.Key, is...))
			default:
				list = append(list, unsetLines(head, rule.Key))
			}
		}
	}
	return list
}

// checkDiff says that the differences of two sheets are as the document says, that the answer is new and both are as they were, and promise 53.
func checkDiff(t *testing.T, what string, a, b sheet) []sheetChange {
	t.Helper()
	a, b = spread(a), spread(b)
	aBefore, bBefore := whole(a), whole(b)
	got := impl.SheetDiff(a, b)
	if want := sheetDiffAsRead(a, b); !same(got, want) {
		t.Errorf("%s: from %.600q to %.600q it is %s, not %s", what, a, b, shown(got), shown(want))
	}
	newMemory(t, what, got, a, b, impl.SheetDiff(a, b))
	if !same(whole(a), aBefore) || !same(whole(b), bBefore) {
		t.Errorf("%s: a sheet is changed", what)
	}
	if !impl.SheetValid(a) || !impl.SheetValid(b) {
		return got
	}
	if made, code := impl.SheetApply(a, got); code != 0 || !same(made, b) {
		t.Errorf("promise 53: %s: %s makes %.600q of %.600q, not %.600q, with code %d", what, shown(got), made, a, b, code)
	}
	if len(got) == 0 != same(a, b) {
		t.Errorf("promise 53: %s: from %.600q to %.600q there are %d differences", what, a, b, len(got))
	}
	return got
}

// checkDiffers says what the differences are, that there are none of a sheet to itself, and looks at the other way round.
func checkDiffers(t *testing.T, what string, a, b sheet, want ...sheetChange) {
	t.Helper()
	if got := checkDiff(t, what, a, b); !same(got, want) {
		t.Errorf("%s: %s, not %s", what, shown(got), shown(want))
	}
	checkDiff(t, what+", the other way round", b, a)
	for _, s := range []sheet{a, b} {
		if got := checkDiff(t, what+", to itself", s, s); len(got) != 0 {
			t.Errorf("%s: to itself: %s", what, shown(got))
		}
		newMemory(t, what+", from nothing", impl.SheetDiff(sheet{}, s), s)
	}
}

func TestSheetChangeConstants(t *testing.T) {
	if got := []int{impl.SheetGone, impl.SheetNew, impl.SheetSet, impl.SheetUnset}; !slices.Equal(got, []int{1, 2, 3, 4}) {
		t.Errorf("%v", got)
	}
}

// Whole answers, of sheets by their texts.
func TestSheetDiffOrdinary(t *testing.T) {
	for _, c := range []struct {
		what, a, b string
		want       []sheetChange
	}{
		{"nothing", "", "", nil},
		{"the same", "team a\nroom 5\nend\nberth b\nmark m\nend", "berth b\nmark m\nend\nteam a\nroom 5\nend", nil},
		{"from nothing", "", "team a\nroom 5\nend", []sheetChange{newBlock("team a", said("room", "5"))}},
		{"to nothing", "team a\nroom 5\nend", "", []sheetChange{goneBlock("team a")}},
		{"from nothing to no lines", "", "team a\nend", []sheetChange{newBlock("team a")}},
		{"no lines", "team a\nend", "team a\nend", nil},
		{"one line more", "team a\nend", "team a\nroom 5\nend", []sheetChange{setLines("team a", "room", said("room", "5"))}},
		{"one line less", "team a\nroom 5\nend", "team a\nend", []sheetChange{unsetLines("team a", "room")}},
		{"another line", "team a\nroom 5\nend", "team a\nroom 6\nend", []sheetChange{setLines("team a", "room", said("room", "6"))}},
		{"another key", "team a\nroom 5\nend", "team a\ncopies 5\nend", []sheetChange{setLines("team a", "copies", said("copies", "5")), unsetLines("team a", "room")}},
		{"one of two keys", "team a\ncopies 4\nroom 5\nend", "team a\ncopies 4\nroom 6\nend", []sheetChange{setLines("team a", "room", said("room", "6"))}},
		{"a default that is said", "team a\nend", "team a\nroom 1000\nend", []sheetChange{setLines("team a", "room", said("room", "1000"))}},
		{"a default that is said no longer", "team a\nroom 1000\nend", "team a\nend", []sheetChange{unsetLines("team a", "room")}},
		{"another name", "team a\nroom 5\nend", "team b\nroom 5\nend", []sheetChange{goneBlock("team a"), newBlock("team b", said("room", "5"))}},
		{"another kind", "team a\nroom 5\nend", "berth a\nroom 5\nend", []sheetChange{goneBlock("team a"), newBlock("berth a", said("room", "5"))}},
		{"other lines of the same name in another kind", "team a\nroom 5\nend\nberth a\nroom 6\nend", "team a\nroom 6\nend\nberth a\nroom 6\nend", []sheetChange{setLines("team a", "room", said("room", "6"))}},
		{"one mark more", "berth b\nmark m\nend", "berth b\nmark m\nmark l\nend", []sheetChange{setLines("berth b", "mark", said("mark", "l"), said("mark", "m"))}},
		{"one mark less", "berth b\nmark m\nmark l\nend", "berth b\nmark m\nend", []sheetChange{setLines("berth b", "mark", said("mark", "m"))}},
		{"another mark", "berth b\nmark m\nmark l\nend", "berth b\nmark m\nmark k\nend", []sheetChange{setLines("berth b", "mark", said("mark", "k"), said("mark", "m"))}},
		{"the same marks", "berth b\nmark m\nmark l\nend", "berth b\nmark l\nmark m\nend", nil},
		{"the first marks", "berth b\nend", "berth b\nmark l\nmark m\nend", []sheetChange{setLines("berth b", "mark", said("mark", "l"), said("mark", "m"))}},
		{"no marks any longer", "berth b\nmark l\nmark m\nend", "berth b\nend", []sheetChange{unsetLines("berth b", "mark")}},
		{"a mark that is called as the zone was", "berth b\nzone z\nend", "berth b\nmark z\nend", []sheetChange{unsetLines("berth b", "zone"), setLines("berth b", "mark", said("mark", "z"))}},
		{"a like with another number", "service s\nlike a 1\nlike b 1\nend", "service s\nlike a 1\nlike b 2\nend", []sheetChange{setLines("service s", "like", said("like", "a", "1"), said("like", "b", "2"))}},
		{"the second of two words", "service s\nneeds 1 2\nend", "service s\nneeds 1 3\nend", []sheetChange{setLines("service s", "needs", said("needs", "1", "3"))}},
		{"the last of three words", "service s\npace 1 2 3\nend", "service s\npace 1 2 4\nend", []sheetChange{setLines("service s", "pace", said("pace", "1", "2", "4"))}},
		{"an empty word", "service s\nwhere a\nend", "service s\nwhere \"\"\nend", []sheetChange{setLines("service s", "where", said("where", ""))}},
	} {
		checkDiffers(t, c.what, sheetFrom(t, c.a), sheetFrom(t, c.b), c.want...)
	}
}

// What goes stands first, then block by block, by kind and name, and key by key, in the order of the table.
func TestSheetDiffOrder(t *testing.T) {
	a := sheetFrom(t, "team a\nend\nteam c\nroom 1\nend\nteam y\nend\nservice m\npace 1 1 1\nlike b 1\nimage 2\nwhere a\nend\nservice a\nend\nberth z\nend\nberth k\nmark m\nend")
	b := sheetFrom(t, "team b\nend\nteam c\nroom 2\ncopies 2\nend\nteam z\nend\nservice m\nteam b\nlike a 1\nwant 4\nvolume no\npace 1 1 2\nend\nservice z\nover 1\nend\nberth a\nend\nberth k\nzone y\nend")
	checkDiffers(t, "all sorts", a, b,
		goneBlock("berth z"), goneBlock("service a"), goneBlock("team a"), goneBlock("team y"),
		newBlock("berth a"), setLines("berth k", "zone", said("zone", "y")), unsetLines("berth k", "mark"),
		setLines("service m", "team", said("team", "b")), unsetLines("service m", "image"), setLines("service m", "want", said("want", "4")), unsetLines("service m", "where"), setLines("service m", "like", said("like", "a", "1")), setLines("service m", "volume", said("volume", "no")), setLines("service m", "pace", said("pace", "1", "1", "2")),
		newBlock("service z", said("over", "1")), newBlock("team b"), setLines("team c", "copies", said("copies", "2")), setLines("team c", "room", said("room", "2")), newBlock("team z"))
}

// All keys of a kind at once, in the order of the table, which is not that of their names.
func TestSheetDiffAllKeys(t *testing.T) {
	for _, kind := range sheetKinds() {
		var one, two []sheetLine
		var news, others, lost []sheetChange
		for _, rule := range sheetTable()[kind] {
			a, b := said(rule.Key, sheetFitting(rule, 0)...), said(rule.Key, sheetFitting(rule, 1)...)
			one, two = append(one, a), append(two, b)
			news, others, lost = append(news, setLines(kind+" x", rule.Key, a)), append(others, setLines(kind+" x", rule.Key, b)), append(lost, unsetLines(kind+" x", rule.Key))
		}
		none, first, second := sheetOf(blockOf(kind, "x")), sheetOf(blockOf(kind, "x", one...)), sheetOf(blockOf(kind, "x", two...))
		checkDiffers(t, "all keys are new", none, first, news...)
		checkDiffers(t, "all keys are others", first, second, others...)
		checkDiffers(t, "all keys go", first, none, lost...)
		checkDiffers(t, "all in one", sheet{}, first, newBlock(kind+" x", one...))
	}
}

// Each key of each kind: not said, said so or otherwise, on both sides.
func TestSheetDiffEachKey(t *testing.T) {
	eachSheetRule(func(kind string, rule impl.SheetRule) {
		lines := []sheetLine{{}, said(rule.Key, sheetFitting(rule, 1)...), said(rule.Key, sheetFitting(rule, 2)...)}
		if !rule.Many {
			lines = append(lines, said(rule.Key, rule.Default...))
		}
		with := func(line sheetLine) sheet {
			if line.Key == "" {
				return sheetOf(blockOf(kind, "x"))
			}
			return sheetOf(blockOf(kind, "x", line))
		}
		for _, a := range lines {
			for _, b := range lines {
				var want []sheetChange
				if !same(a, b) {
					want = []sheetChange{setLines(kind+" x", rule.Key, b)}
					if b.Key == "" {
						want = []sheetChange{unsetLines(kind+" x", rule.Key)}
					}
				}
				checkDiffers(t, rule.Key, with(a), with(b), want...)
			}
		}
	})
}

// Up to ten lines of a key that is many, from the first or the last of ten.
func TestSheetDiffMany(t *testing.T) {
	for kind, key := range map[string]string{"berth": "mark", "service": "like"} {
		ten := manyLines(key, 10)
		for few := range 11 {
			for more := range 11 {
				for _, to := range [][]sheetLine{ten[:more], ten[10-more:]} {
					var want []sheetChange
					if !same(ten[:few], to) {
						want = []sheetChange{setLines(kind+" x", key, to...)}
						if more == 0 {
							want = []sheetChange{unsetLines(kind+" x", key)}
						}
					}
					checkDiffers(t, fmt.Sprint(few, " lines and ", more), sheetOf(blockOf(kind, "x", ten[:few]...)), sheetOf(blockOf(kind, "x", to...)), want...)
				}
			}
		}
	}
}

// As many blocks as there may be, on both sides: all gone, all new, all other, and some of each.
func TestSheetDiffHowManyBlocks(t *testing.T) {
	all := manyBlocks("berth", 120)
	for _, c := range []struct{ a, both, b int }{{60, 0, 60}, {60, 0, 0}, {0, 0, 60}, {0, 60, 0}, {30, 30, 30}, {1, 59, 1}, {59, 1, 59}, {20, 5, 55}} {
		a := sheetOf(slices.Clone(all[:c.a+c.both])...)
		b := sheetOf(slices.Clone(all[c.a : c.a+c.both+c.b])...)
		var want []sheetChange
		for i := range c.a {
			want = append(want, goneBlock("berth "+a.Blocks[i].Name))
		}
		for i := range b.Blocks {
			line := said("room", fmt.Sprint(i))
			b.Blocks[i].Lines = []sheetLine{line}
			if i < c.both {
				want = append(want, setLines("berth "+b.Blocks[i].Name, "room", line))
			} else {
				want = append(want, newBlock("berth "+b.Blocks[i].Name, line))
			}
		}
		checkDiffers(t, fmt.Sprintf("%+v", c), a, b, want...)
	}
}

// With one that is not valid there is nothing, whichever it is, and also with itself.
func TestSheetDiffNotValid(t *testing.T) {
	good := []sheet{{}, sheetOf(blockOf("team", "a")), sheetOf(blockOf("team", "z", said("room", "1"))), getSheet()}
	bad := sheetsNotValid()
	bad["a block of nothing"] = sheetOf(sheetBlock{})
	bad["lines out of order"] = sheetOf(blockOf("berth", "a", said("mark", "m"), said("mark", "l")))
	check := func(what string, a, b sheet) {
		t.Helper()
		if got := checkDiff(t, what, a, b); len(got) != 0 {
			t.Errorf("%s: %s", what, shown(got))
		}
	}
	for what, s := range bad {
		for _, other := range good {
			check(what+", the first", s, other)
			check(what+", the second", other, s)
		}
		for other, s2 := range bad {
			check(what+", and "+other, s, s2)
		}
	}
	for _, kind := range sheetOtherKinds() {
		check("no kind", getSheet(), sheetOf(blockOf(kind, "a")))
		check("no kind", sheetOf(blockOf(kind, "a")), getSheet())
	}
	for _, count := range []int{61, 1000} {
		check("too many blocks", sheetOf(manyBlocks("team", count)...), sheet{})
		check("too many blocks", sheet{}, sheetOf(manyBlocks("team", count)...))
	}
}

// The lists of both sheets may share memory, also with each other; those of the differences do not.
func TestSheetDiffSharedLists(t *testing.T) {
	s := sharing()
	before := whole(s)
	other := sheetOf(blockOf("service", "a", s.Blocks[2].Lines...), blockOf("service", "b"), blockOf("service", "c", s.Blocks[1].Lines...), blockOf("team", "b", s.Blocks[4].Lines...), blockOf("team", "c", s.Blocks[4].Lines...))
	for _, c := range []struct{ a, b sheet }{{sheet{}, s}, {s, other}, {other, s}, {sheetOf(s.Blocks[:2]...), s}, {s, sheetOf(s.Blocks[2:]...)}} {
		got := impl.SheetDiff(c.a, c.b)
		newMemory(t, "shared lists", got, c.a, c.b)
		if !same(got, sheetDiffAsRead(c.a, c.b)) || len(got) == 0 {
			t.Errorf("%q to %q: %s", c.a, c.b, shown(got))
		}
	}
	if !same(whole(s), before) {
		t.Error("a sheet is changed")
	}
}

// Whatever is written into an answer, neither sheet nor a later answer has it.
func TestSheetDiffIsNotKept(t *testing.T) {
	made := func() (sheet, sheet) {
		return getSheet(), sheetOf(blockOf("berth", "a", said("mark", "q"), said("mark", "r")), blockOf("berth", "c", said("mark", "q")), blockOf("service", "a", said("needs", "7", "8")), blockOf("team", "a", said("room", "6")))
	}
	a, b := made()
	want := sheetDiffAsRead(made())
	for range 3 {
		got := impl.SheetDiff(a, b)
		wantA, wantB := made()
		if !same(got, want) || !same(a, wantA) || !same(b, wantB) {
			t.Errorf("a change of an answer is seen: %s", shown(got))
		}
		spoilAll(&got)
	}
}

// Sheets that have no text have differences all the same, with words of all bytes.
func TestSheetDiffTooLongForAText(t *testing.T) {
	long := func(c string) sheet {
		blocks := manyBlocks("service", 60)
		for i := range blocks {
			blocks[i].Lines = []sheetLine{said("where", strings.Repeat(c, 200))}
		}
		return sheetOf(blocks...)
	}
	a, b := long("\xff"), long("\x00")
	if impl.SheetPrint(a) != "" || len(checkDiff(t, "sheets that have no text", a, b)) != 60 || len(checkDiff(t, "to nothing", a, sheet{})) != 60 || len(checkDiff(t, "from nothing", sheet{}, a)) != 60 {
		t.Error("there are not sixty differences")
	}
	checkDiffers(t, "to itself", a, long("\xff"))
}

// What is far too great is answered all the same.
func TestSheetDiffGreat(t *testing.T) {
	great := strings.Repeat("a", 1<<20)
	for what, s := range map[string]sheet{
		"a great kind": sheetOf(blockOf(great, "a")),
		"a great name": sheetOf(blockOf("team", great)),
		"a great word": sheetOf(blockOf("service", "a", said("where", great))),
		"many lines":   sheetOf(blockOf("berth", "a", slices.Repeat([]sheetLine{said("mark", "m")}, 1<<16)...)),
		"many blocks":  {Blocks: make([]sheetBlock, 1<<20)},
	} {
		if got := len(impl.SheetDiff(s, s)) + len(impl.SheetDiff(s, sheet{})) + len(impl.SheetDiff(getSheet(), s)); got != 0 {
			t.Errorf("%s: %d differences", what, got)
		}
		if made, code := impl.SheetApply(s, nil); code != 1 || len(made.Blocks) != 0 {
			t.Errorf("%s: code %d", what, code)
		}
	}
}
