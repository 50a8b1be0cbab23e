package tests

import (
	"fmt"
	"slices"
	"strings"
	"testing"

	"loop.example/wharfdesk/impl"
)

// blockIn is the block of a sheet with this kind and name; nothing, if there is none.
func blockIn(s sheet, kind, name string) (sheetBlock, bool) {
	for _, b := range s.Blocks {
		if b.Kind == kind && b.Name == name {
			return b, true
		}
	}
	return sheetBlock{}, false
}

// sheetOverAsRead goes by the document's words.
func sheetOverAsRead(under, over sheet) sheet {
	if !sheetValidAsRead(under) || !sheetValidAsRead(over) {
		return sheet{}
	}
	var blocks []sheetBlock
	for _, b := range under.Blocks {
		upper, both := blockIn(over, b.Kind, b.Name)
		lines := slices.Clone(upper.Lines)
		for _, line := range b.Lines {
			if !both || linesOf(line.Key, upper.Lines) == 0 {
				lines = append(lines, line)
			}
		}
		blocks = append(blocks, blockOf(b.Kind, b.Name, lines...))
	}
	for _, b := range over.Blocks {
		if _, both := blockIn(under, b.Kind, b.Name); !both {
			blocks = append(blocks, blockOf(b.Kind, b.Name, slices.Clone(b.Lines)...))
		}
	}
	if len(blocks) > 60 {
		return sheet{}
	}
	return sheetInOrder(blocks)
}

// checkOver says that a sheet is laid over another one as the document says, that the answer is new and both are as they were, and promise 52.
func checkOver(t *testing.T, what string, under, over sheet) sheet {
	t.Helper()
	under, over = spread(under), spread(over)
	underBefore, overBefore := whole(under), whole(over)
	got := impl.SheetOver(under, over)
	if want := sheetOverAsRead(under, over); !same(got, want) {
		t.Errorf("%s: %.600q under %.600q is %.600q, not %.600q", what, under, over, got, want)
	}
	newMemory(t, what, got, under, over, impl.SheetOver(under, over))
	if !impl.SheetValid(got) {
		t.Errorf("%s: %.600q is not valid", what, got)
	}
	if !same(whole(under), underBefore) || !same(whole(over), overBefore) {
		t.Errorf("%s: a sheet is changed", what)
	}
	if impl.SheetValid(under) {
		filled := impl.SheetFill(impl.SheetOver(impl.SheetFill(under), over))
		if want := impl.SheetFill(got); !same(filled, want) {
			t.Errorf("promise 52: %s: %.600q, not %.600q", what, filled, want)
		}
	}
	return got
}

// checkAlone says promise 51 of one sheet.
func checkAlone(t *testing.T, what string, s sheet) {
	t.Helper()
	if !same(checkOver(t, what, s, s), s) || !same(checkOver(t, what, s, sheet{}), s) || !same(checkOver(t, what, sheet{}, s), s) {
		t.Errorf("promise 51: %s: %.600q", what, s)
	}
	newMemory(t, what+", the very same sheet twice", impl.SheetOver(s, s), s)
}

// Whole answers, as texts.
func TestSheetOverOrdinary(t *testing.T) {
	for _, c := range []struct{ what, under, over, want string }{
		{"nothing", "", "", ""},
		{"under nothing", "team a\nroom 5\nend", "", "team a\nroom 5\nend"},
		{"over nothing", "", "team a\nroom 5\nend", "team a\nroom 5\nend"},
		{"blocks apart", "team a\nroom 5\nend", "team b\nroom 6\nend", "team a\nroom 5\nend\nteam b\nroom 6\nend"},
		{"blocks apart, the upper one first", "team b\nroom 5\nend", "team a\nroom 6\nend", "team a\nroom 6\nend\nteam b\nroom 5\nend"},
		{"one name, other kinds", "team a\nroom 5\nend", "berth a\nroom 6\nend\nservice a\nend", "berth a\nroom 6\nend\nservice a\nend\nteam a\nroom 5\nend"},
		{"blocks between each other", "berth a\nend\nberth c\nend\nteam b\nend", "berth b\nend\nservice a\nend\nteam a\nend\nteam c\nend", "berth a\nend\nberth b\nend\nberth c\nend\nservice a\nend\nteam a\nend\nteam b\nend\nteam c\nend"},
		{"a key that both have", "team a\nroom 5\nend", "team a\nroom 6\nend", "team a\nroom 6\nend"},
		{"the same words", "team a\nroom 5\nend", "team a\nroom 5\nend", "team a\nroom 5\nend"},
		{"other keys", "team a\nroom 5\nend", "team a\ncopies 6\nend", "team a\ncopies 6\nroom 5\nend"},
		{"other keys, the upper one last", "team a\ncopies 6\nend", "team a\nroom 5\nend", "team a\ncopies 6\nroom 5\nend"},
		{"one of two keys", "team a\ncopies 5\nroom 6\nend", "team a\nroom 7\nend", "team a\ncopies 5\nroom 7\nend"},
		{"no lines over some", "team a\ncopies 5\nroom 6\nend", "team a\nend", "team a\ncopies 5\nroom 6\nend"},
		{"some over no lines", "team a\nend", "team a\ncopies 5\nroom 6\nend", "team a\ncopies 5\nroom 6\nend"},
		{"no lines over none", "team a\nend", "team a\nend", "team a\nend"},
		{"a default over something else", "team a\nroom 5\nend", "team a\nroom 1000\nend", "team a\nroom 1000\nend"},
		{"something else over a default", "team a\nroom 1000\nend", "team a\nroom 5\nend", "team a\nroom 5\nend"},
		{"what is left out is no default", "team a\nroom 5\nend", "team a\ncopies 100\nend", "team a\ncopies 100\nroom 5\nend"},
		{"marks over others", "berth a\nmark l\nmark m\nend", "berth a\nmark k\nend", "berth a\nmark k\nend"},
		{"marks over the same and others", "berth a\nmark l\nmark m\nend", "berth a\nmark m\nmark n\nend", "berth a\nmark m\nmark n\nend"},
		{"no marks over some", "berth a\nmark l\nmark m\nroom 5\nend", "berth a\nroom 6\nend", "berth a\nroom 6\nmark l\nmark m\nend"},
		{"marks over none", "berth a\nroom 5\nend", "berth a\nmark l\nmark m\nend", "berth a\nroom 5\nmark l\nmark m\nend"},
		{"likes between others", "service s\nteam b\nlike a 1\nlike b 2\npace 1 1 1\nneeds 5 6\nend", "service s\nlike a 2\nneeds 5 7\nvolume yes\nend", "service s\nteam b\nneeds 5 7\nlike a 2\nvolume yes\npace 1 1 1\nend"},
		{"a like with another number", "service s\nlike a 1\nend", "service s\nlike a 2\nend", "service s\nlike a 2\nend"},
		{"blocks of one alone beside one of both", "team a\nroom 1\nend\nteam b\nroom 2\ncopies 3\nend", "team b\nroom 4\nend\nteam c\nroom 5\nend", "team a\nroom 1\nend\nteam b\ncopies 3\nroom 4\nend\nteam c\nroom 5\nend"},
		{"a key over that of another kind", "team a\nroom 5\nend", "berth a\nroom 7\nend", "berth a\nroom 7\nend\nteam a\nroom 5\nend"},
	} {
		under, over := sheetFrom(t, c.under), sheetFrom(t, c.over)
		if got := checkOver(t, c.what, under, over); !same(got, sheetFrom(t, c.want)) {
			t.Errorf("%s: %q", c.what, impl.SheetPrint(got))
		}
		checkOver(t, c.what+", the other way round", over, under)
		checkAlone(t, c.what, under)
		checkAlone(t, c.what, over)
	}
}

// Each two keys of each kind: with one it is the upper words, with two both, in their order.
func TestSheetOverEachTwoKeys(t *testing.T) {
	for _, kind := range sheetKinds() {
		for i, one := range sheetTable()[kind] {
			for j, two := range sheetTable()[kind] {
				lower, upper := said(one.Key, sheetFitting(one, 0)...), said(two.Key, sheetFitting(two, 1)...)
				want := []sheetLine{upper}
				if i < j {
					want = []sheetLine{lower, upper}
				} else if i > j {
					want = []sheetLine{upper, lower}
				}
				got := checkOver(t, one.Key+" under "+two.Key, sheetOf(blockOf(kind, "x", lower)), sheetOf(blockOf(kind, "x", upper)))
				if !same(got, sheetOf(blockOf(kind, "x", want...))) {
					t.Errorf("%s: %s under %s: %q", kind, one.Key, two.Key, got)
				}
			}
		}
	}
}

// Lines of a key that is many never come from both, so they never are too many.
func TestSheetOverMany(t *testing.T) {
	for kind, key := range map[string]string{"berth": "mark", "service": "like"} {
		ten := manyLines(key, 10)
		for under := range 11 {
			for over := range 11 {
				lower, upper := ten[:under], ten[10-over:]
				want := upper
				if over == 0 {
					want = lower
				}
				got := checkOver(t, fmt.Sprint(under, " lines under ", over), sheetOf(blockOf(kind, "x", lower...)), sheetOf(blockOf(kind, "x", upper...)))
				if !same(got, sheetOf(blockOf(kind, "x", want...))) {
					t.Errorf("%d lines under %d: %q", under, over, got)
				}
			}
		}
		good, eleven := sheetOf(blockOf(kind, "x", ten...)), sheetOf(blockOf(kind, "x", manyLines(key, 11)...))
		if len(checkOver(t, "eleven under ten", eleven, good).Blocks)+len(checkOver(t, "eleven over ten", good, eleven).Blocks) != 0 {
			t.Error("eleven")
		}
	}
}

// Sixty blocks in all, and one more, with and without blocks that both have.
func TestSheetOverHowManyBlocks(t *testing.T) {
	all := manyBlocks("service", 130)
	for _, c := range []struct{ under, both, over int }{
		{60, 0, 0}, {0, 0, 60}, {0, 60, 0}, {30, 0, 30}, {59, 0, 1}, {1, 0, 59}, {20, 20, 20}, {1, 58, 1}, {0, 59, 1}, {1, 59, 0}, {59, 1, 0}, {0, 1, 59}, {10, 5, 45}, {29, 0, 30}, {0, 59, 0},
		{31, 0, 30}, {30, 0, 31}, {60, 0, 1}, {1, 0, 60}, {0, 60, 1}, {1, 60, 0}, {1, 59, 1}, {20, 20, 21}, {21, 20, 20}, {20, 21, 20}, {60, 0, 60}, {59, 1, 1}, {1, 1, 59}, {30, 30, 30}, {59, 1, 59},
		{61, 0, 0}, {0, 0, 61}, {0, 61, 0}, {1, 60, 1},
	} {
		count := c.under + c.both + c.over
		under := sheetOf(all[:c.under+c.both]...)
		over := sheetOf(all[c.under:count]...)
		want := 0
		if count <= 60 {
			want = count
		}
		what := fmt.Sprintf("%+v", c)
		if got := len(checkOver(t, what, under, over).Blocks); got != want {
			t.Errorf("%s: %d blocks", what, got)
		}
		if got := len(checkOver(t, what, over, under).Blocks); got != want {
			t.Errorf("%s, the other way round: %d blocks", what, got)
		}
	}
}

// The same with blocks of all kinds: those of one name and other kinds are others.
func TestSheetOverHowManyBlocksOfKinds(t *testing.T) {
	for _, count := range []int{20, 21} {
		under := sheetOf(slices.Concat(manyBlocks("berth", 20), manyBlocks("team", 20))...)
		over := sheetOf(slices.Concat(manyBlocks("berth", 20), manyBlocks("service", count))...)
		want := 60
		if count > 20 {
			want = 0
		}
		if got := len(checkOver(t, "kinds", under, over).Blocks); got != want {
			t.Errorf("%d blocks", got)
		}
	}
}

// Sheets that are not valid are laid over nothing, and nothing over them; also where the other one would hide what is wrong.
func TestSheetOverNotValid(t *testing.T) {
	good := []sheet{{}, sheetOf(blockOf("team", "a")), sheetOf(blockOf("team", "z", said("room", "1"))), getSheet(), sheetOf(blockOf("team", "a", said("copies", "1"), said("room", "1")), blockOf("team", "z"))}
	bad := sheetsNotValid()
	bad["lines out of order"] = sheetOf(blockOf("berth", "a", said("mark", "m"), said("mark", "l")))
	bad["one line out of two"] = sheetOf(blockOf("berth", "a", said("mark", "m"), said("mark", "m")))
	bad["a block of nothing"] = sheetOf(sheetBlock{})
	for what, s := range bad {
		for _, other := range good {
			if got := checkOver(t, what+", over", other, s); len(got.Blocks) != 0 {
				t.Errorf("%s, over: %q", what, got)
			}
			if got := checkOver(t, what+", under", s, other); len(got.Blocks) != 0 {
				t.Errorf("%s, under: %q", what, got)
			}
		}
		for other, s2 := range bad {
			if got := checkOver(t, what+" under "+other, s, s2); len(got.Blocks) != 0 {
				t.Errorf("%s under %s: %q", what, other, got)
			}
		}
	}
	for _, kind := range sheetOtherKinds() {
		checkOver(t, "no kind, over", getSheet(), sheetOf(blockOf(kind, "a")))
		checkOver(t, "no kind, under", sheetOf(blockOf(kind, "a")), getSheet())
	}
}

// The lists of both arguments may share memory, also with each other; those of the answer do not.
func TestSheetOverSharedLists(t *testing.T) {
	s := sharing()
	before := whole(s)
	for _, c := range []struct{ under, over sheet }{
		{s, s}, {s, sheetOf(s.Blocks[2:]...)}, {sheetOf(s.Blocks[2:]...), s}, {sheetOf(s.Blocks[:3]...), sheetOf(s.Blocks[2:5]...)},
		{s, sheetOf(blockOf("service", "a", s.Blocks[2].Lines...), blockOf("service", "c", s.Blocks[3].Lines[2:]...))}, {sheetOf(blockOf("service", "a", s.Blocks[2].Lines...), blockOf("service", "c", s.Blocks[3].Lines[2:]...)), s},
	} {
		got := impl.SheetOver(c.under, c.over)
		newMemory(t, "shared lists", got, c.under, c.over)
		if !same(got, sheetOverAsRead(c.under, c.over)) || len(got.Blocks) == 0 {
			t.Errorf("%q under %q: %q", c.under, c.over, got)
		}
	}
	if !same(whole(s), before) {
		t.Error("a sheet is changed")
	}
}

// Whatever is written into an answer, neither argument nor a later answer has it.
func TestSheetOverIsNotKept(t *testing.T) {
	made := func() (sheet, sheet) {
		return getSheet(), sheetOf(blockOf("berth", "a", said("room", "5"), said("mark", "q")), blockOf("berth", "c"), blockOf("service", "web", said("like", "a", "1")), blockOf("team", "a", said("room", "6")))
	}
	under, over := made()
	want := sheetOverAsRead(made())
	for range 3 {
		got := impl.SheetOver(under, over)
		wantUnder, wantOver := made()
		if !same(got, want) || !same(under, wantUnder) || !same(over, wantOver) {
			t.Errorf("a change of an answer is seen: %q", got)
		}
		spoilAll(&got)
	}
}

// Sheets that have no text are laid over each other all the same.
func TestSheetOverTooLongForAText(t *testing.T) {
	blocks := manyBlocks("service", 60)
	for i := range blocks {
		blocks[i].Lines = []sheetLine{said("where", strings.Repeat("\xff", 200))}
	}
	for _, over := range []sheet{sheetOf(manyBlocks("service", 60)...), sheetOf(blocks[5]), sheetOf(blocks...)} {
		got := checkOver(t, "a sheet that has no text", sheetOf(blocks...), over)
		if impl.SheetPrint(got) != "" || !same(got, sheetOf(blocks...)) {
			t.Errorf("%d blocks", len(got.Blocks))
		}
	}
}
