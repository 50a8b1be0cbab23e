package tests

import (
	"fmt"
	"reflect"
	"slices"
	"strings"
	"testing"

	"loop.example/wharfdesk/impl"
)

// sheetFrom is the sheet of a text.
func sheetFrom(t *testing.T, text string) sheet {
	t.Helper()
	s, fault := sheetParseAsRead(text)
	if fault.Code != 0 {
		t.Fatalf("%q: %+v", text, fault)
	}
	return s
}

// sheetFillAsRead, sheetTrimAsRead and sheetGetAsRead go by the document's words.
func sheetFillAsRead(s sheet) sheet {
	if !sheetValidAsRead(s) {
		return sheet{}
	}
	var blocks []sheetBlock
	for _, b := range s.Blocks {
		lines := slices.Clone(b.Lines)
		for _, rule := range sheetTableRead[b.Kind] {
			if !rule.Many && linesOf(rule.Key, b.Lines) == 0 {
				lines = append(lines, said(rule.Key, rule.Default...))
			}
		}
		blocks = append(blocks, blockOf(b.Kind, b.Name, lines...))
	}
	return sheetInOrder(blocks)
}

func sheetTrimAsRead(s sheet) sheet {
	if !sheetValidAsRead(s) {
		return sheet{}
	}
	var blocks []sheetBlock
	for _, b := range s.Blocks {
		left := blockOf(b.Kind, b.Name)
		for _, line := range b.Lines {
			if !saysDefault(b.Kind, line) {
				left.Lines = append(left.Lines, line)
			}
		}
		blocks = append(blocks, left)
	}
	return sheet{Blocks: blocks}
}

// saysDefault is of a line of a key that is not many.
func saysDefault(kind string, line sheetLine) bool {
	place, many := sheetKey(kind, line.Key)
	return !many && slices.Equal(line.Words, sheetTableRead[kind][place].Default)
}

func sheetGetAsRead(s sheet, kind, name, key string) ([]sheetLine, bool) {
	place, many := sheetKey(kind, key)
	if !sheetValidAsRead(s) || place < 0 {
		return nil, false
	}
	for _, b := range s.Blocks {
		if b.Kind != kind || b.Name != name {
			continue
		}
		var lines []sheetLine
		for _, line := range b.Lines {
			if line.Key == key {
				lines = append(lines, line)
			}
		}
		if len(lines) == 0 && !many {
			return []sheetLine{said(key, sheetTableRead[kind][place].Default...)}, true
		}
		return lines, true
	}
	return nil, false
}

// checkDefaults says that a sheet is filled and trimmed as the document says, that both are new, that the sheet is as it was, and promises 49 and 50.
func checkDefaults(t *testing.T, what string, s sheet) {
	t.Helper()
	s = spread(s)
	before := whole(s)
	filled, trimmed := impl.SheetFill(s), impl.SheetTrim(s)
	if want := sheetFillAsRead(s); !same(filled, want) {
		t.Errorf("%s: %.600q is filled as %.600q, not as %.600q", what, s, filled, want)
	}
	if want := sheetTrimAsRead(s); !same(trimmed, want) {
		t.Errorf("%s: %.600q is trimmed as %.600q, not as %.600q", what, s, trimmed, want)
	}
	newMemory(t, what+", filled", filled, s, trimmed, impl.SheetFill(s))
	newMemory(t, what+", trimmed", trimmed, s, impl.SheetTrim(s))
	for _, other := range []sheet{filled, trimmed} {
		if !impl.SheetValid(other) || !same(impl.SheetFill(other), filled) || !same(impl.SheetTrim(other), trimmed) {
			t.Errorf("promise 49: %s: of %.600q comes %.600q", what, s, other)
		}
	}
	for i, b := range s.Blocks {
		if i < 3 || i == len(s.Blocks)-1 {
			checkGetsOf(t, what, b.Kind, b.Name, s, filled, trimmed)
		}
	}
	if !same(whole(s), before) {
		t.Errorf("%s: the sheet is changed", what)
	}
}

// checkGetsOf asks sheets for all keys of a block; what the first one tells is as the document says, and the others, if it is valid, tell the same.
func checkGetsOf(t *testing.T, what, kind, name string, first sheet, others ...sheet) {
	t.Helper()
	for _, rule := range sheetTableRead[kind] {
		lines, there := impl.SheetGet(first, kind, name, rule.Key)
		want, wantThere := sheetGetAsRead(first, kind, name, rule.Key)
		if !same(lines, want) || there != wantThere {
			t.Errorf("%s: %s %s: %s is %.600q, %v, not %.600q, %v", what, kind, name, rule.Key, lines, there, want, wantThere)
		}
		newMemory(t, what, lines, first)
		if !there {
			continue
		}
		if !rule.Many && (len(lines) != 1 || lines[0].Key != rule.Key) {
			t.Errorf("promise 50: %s: %s %s: %s is %.600q", what, kind, name, rule.Key, lines)
		}
		for _, other := range others {
			if told, is := impl.SheetGet(other, kind, name, rule.Key); !is || !same(told, lines) {
				t.Errorf("promise 49: %s: %s %s: %s is %.600q, and then %.600q, %v", what, kind, name, rule.Key, lines, told, is)
			}
		}
	}
}

// Whole answers, as texts.
func TestSheetFillAndTrimOrdinary(t *testing.T) {
	const (
		berth   = "berth b\n  zone z\n  room 100\n  hold 100\nend\n"
		service = "service s\n  team core\n  image 1\n  want 1\n  down 1\n  over 0\n  needs 1 1\n  where \"\"\n  apart none\n  volume no\n  follow 0 0 0\n  pace 0 0 0\nend\n"
		team    = "team t\n  copies 100\n  room 1000\nend\n"
	)
	for _, c := range []struct{ what, text, filled, trimmed string }{
		{"nothing", "", "", ""},
		{"a berth without lines", "berth b\nend", berth, "berth b\nend"},
		{"a service without lines", "service s\nend", service, "service s\nend"},
		{"a team without lines", "team t\nend", team, "team t\nend"},
		{"a berth that says its defaults", berth, berth, "berth b\nend"},
		{"a service that says its defaults", service, service, "service s\nend"},
		{"a team that says its defaults", team, team, "team t\nend"},
		{"one of each kind", "team t\nend\nservice s\nend\nberth b\nend", berth + service + team, "berth b\nend\nservice s\nend\nteam t\nend"},
		{"a team, in part", "team t\nroom 5\nend", "team t\ncopies 100\nroom 5\nend", "team t\nroom 5\nend"},
		{"a team, in part its defaults", "team t\nroom 5\ncopies 100\nend", "team t\ncopies 100\nroom 5\nend", "team t\nroom 5\nend"},
		{"a team with all lines", "team t\nroom 5\ncopies 6\nend", "team t\ncopies 6\nroom 5\nend", "team t\nroom 5\ncopies 6\nend"},
		{"the default of another key", "team t\ncopies 1000\nroom 100\nend", "team t\ncopies 1000\nroom 100\nend", "team t\ncopies 1000\nroom 100\nend"},
		{"the default of another kind", "team t\nroom 100\nend\nberth b\nroom 1000\nhold 100\nend", "berth b\nzone z\nroom 1000\nhold 100\nend\nteam t\ncopies 100\nroom 100\nend", "berth b\nroom 1000\nend\nteam t\nroom 100\nend"},
		{"a berth with marks", "berth b\nmark m\nmark l\nend", "berth b\nzone z\nroom 100\nhold 100\nmark l\nmark m\nend", "berth b\nmark l\nmark m\nend"},
		{"a mark that is called as its zone", "berth b\nmark z\nzone z\nend", "berth b\nzone z\nroom 100\nhold 100\nmark z\nend", "berth b\nmark z\nend"},
		{"another zone", "berth b\nzone y\nhold 0\nend", "berth b\nzone y\nroom 100\nhold 0\nend", "berth b\nzone y\nhold 0\nend"},
		{"likes among the lines", "service s\nlike ssd 5\nlike \"\" 0\npace 1 0 0\nneeds 1 1\nend",
			"service s\nteam core\nimage 1\nwant 1\ndown 1\nover 0\nneeds 1 1\nwhere \"\"\nlike \"\" 0\nlike ssd 5\napart none\nvolume no\nfollow 0 0 0\npace 1 0 0\nend",
			"service s\nlike \"\" 0\nlike ssd 5\npace 1 0 0\nend"},
		{"almost a default", "service s\nneeds 1 0\nwhere \" \"\nfollow 0 0 1\nimage 10\nteam cor\nend",
			"service s\nteam cor\nimage 10\nwant 1\ndown 1\nover 0\nneeds 1 0\nwhere \" \"\napart none\nvolume no\nfollow 0 0 1\npace 0 0 0\nend",
			"service s\nteam cor\nimage 10\nneeds 1 0\nwhere \" \"\nfollow 0 0 1\nend"},
		{"other teams", "team a\ncopies 100\nend\nteam b\nroom 1000\nend\nteam c\nend", "team a\ncopies 100\nroom 1000\nend\nteam b\ncopies 100\nroom 1000\nend\nteam c\ncopies 100\nroom 1000\nend", "team a\nend\nteam b\nend\nteam c\nend"},
	} {
		s := sheetFrom(t, c.text)
		checkDefaults(t, c.what, s)
		if got := impl.SheetFill(s); !same(got, sheetFrom(t, c.filled)) {
			t.Errorf("%s: filled: %q", c.what, impl.SheetPrint(got))
		}
		if got := impl.SheetTrim(s); !same(got, sheetFrom(t, c.trimmed)) {
			t.Errorf("%s: trimmed: %q", c.what, impl.SheetPrint(got))
		}
	}
}

// Each key alone: with its Default, and with other words.
func TestSheetFillAndTrimEachKey(t *testing.T) {
	eachSheetRule(func(kind string, rule impl.SheetRule) {
		for n := range 30 {
			line := said(rule.Key, sheetFitting(rule, n)...)
			s := sheetOf(blockOf(kind, "x", line))
			checkDefaults(t, rule.Key, s)
			taken := !rule.Many && slices.Equal(line.Words, rule.Default)
			if left := linesOf(rule.Key, impl.SheetTrim(s).Blocks[0].Lines); left == 0 != taken {
				t.Errorf("%s %s: %q: %d are left", kind, rule.Key, line.Words, left)
			}
		}
		if rule.Many {
			return
		}
		checkDefaults(t, "a default", sheetOf(blockOf(kind, "x", said(rule.Key, rule.Default...))))
		for place, of := range rule.Args {
			for _, word := range sheetSamplesBy[of].fit {
				words := slices.Clone(rule.Default)
				words[place] = word
				checkDefaults(t, "a default but for a word", sheetOf(blockOf(kind, "x", said(rule.Key, words...))))
			}
		}
	})
}

// keysSaid is a block that says each key by a digit of n: not at all, with its Default, or otherwise; and this many lines of the key that is many.
func keysSaid(kind string, n, many int) sheetBlock {
	b := blockOf(kind, "x")
	for _, rule := range sheetTableRead[kind] {
		switch {
		case rule.Many:
			b.Lines = append(b.Lines, manyLines(rule.Key, many)...)
			continue
		case n%3 == 1:
			b.Lines = append(b.Lines, said(rule.Key, rule.Default...))
		case n%3 == 2:
			b.Lines = append(b.Lines, said(rule.Key, sheetFitting(rule, 3)...))
		}
		n /= 3
	}
	return b
}

// All ways in which the keys of teams and berths may be said, and some of those of services.
func TestSheetFillAndTrimAllKeys(t *testing.T) {
	t.Parallel()
	for _, many := range []int{0, 1, 2, 10} {
		for n := range 9 {
			checkDefaults(t, "a team", sheetOf(keysSaid("team", n, many)))
		}
		for n := range 27 {
			checkDefaults(t, "a berth", sheetOf(keysSaid("berth", n, many)))
		}
		for n := many; n < 177147; n += 293 {
			checkDefaults(t, "a service", sheetOf(keysSaid("service", n, many)))
		}
		checkDefaults(t, "a service that says all defaults", sheetOf(keysSaid("service", 88573, many)))
		checkDefaults(t, "a service that says all otherwise", sheetOf(keysSaid("service", 177146, many)))
	}
}

// A block of which no line is left stays, whichever it is.
func TestSheetTrimKeepsBlocks(t *testing.T) {
	var s, heads sheet
	for _, kind := range sheetKinds() {
		for _, name := range []string{"a", "b", "c"} {
			b := keysSaid(kind, 88573, 0)
			b.Name = name
			s.Blocks = append(s.Blocks, b)
			heads.Blocks = append(heads.Blocks, blockOf(kind, name))
		}
	}
	checkDefaults(t, "all defaults", s)
	checkDefaults(t, "no lines", heads)
	if got := impl.SheetTrim(s); !same(got, heads) {
		t.Errorf("trimmed: %q", got)
	}
	if got := impl.SheetFill(heads); !same(got, s) {
		t.Errorf("filled: %q", got)
	}
}

func TestSheetFillAndTrimNothing(t *testing.T) {
	for _, s := range []sheet{{}, {Blocks: []sheetBlock{}}, {Blocks: manyBlocks("team", 3)[:0]}} {
		checkDefaults(t, "nothing", s)
		if got := len(impl.SheetFill(s).Blocks) + len(impl.SheetTrim(s).Blocks); got != 0 {
			t.Errorf("%d blocks", got)
		}
	}
}

func TestSheetFillAndTrimNotValid(t *testing.T) {
	for what, s := range sheetsNotValid() {
		checkDefaults(t, what, s)
		if got := len(impl.SheetFill(s).Blocks) + len(impl.SheetTrim(s).Blocks); got != 0 {
			t.Errorf("%s: %d blocks", what, got)
		}
	}
	for _, kind := range sheetOtherKinds() {
		checkDefaults(t, "no kind", sheetOf(blockOf(kind, "a")))
		checkDefaults(t, "no kind, with a line", sheetOf(blockOf(kind, "a", said("room", "100"))))
	}
	for _, name := range sheetSamplesBy[3].unfit {
		checkDefaults(t, "no name", sheetOf(blockOf("team", name, said("room", "1000"))))
	}
	checkDefaults(t, "a default twice", sheetOf(blockOf("team", "a", said("room", "1000"), said("room", "1000"))))
	checkDefaults(t, "a default, and another line", sheetOf(blockOf("team", "a", said("room", "1"), said("room", "1000"))))
	checkDefaults(t, "defaults the wrong way round", sheetOf(blockOf("team", "a", said("room", "1000"), said("copies", "100"))))
	checkDefaults(t, "a default of another kind", sheetOf(blockOf("team", "a", said("zone", "z"))))
}

// As many blocks, and lines of a key that is many, as there may be, and one more.
func TestSheetFillAndTrimLimits(t *testing.T) {
	for _, count := range []int{59, 60, 61} {
		for _, kind := range sheetKinds() {
			s := sheetOf(manyBlocks(kind, count)...)
			checkDefaults(t, fmt.Sprint(count, " blocks"), s)
			want := count
			if count > 60 {
				want = 0
			}
			if got := impl.SheetFill(s); len(got.Blocks) != want || len(impl.SheetTrim(s).Blocks) != want || len(impl.SheetTrim(got).Blocks) != want {
				t.Errorf("%d blocks of the kind %s: %d", count, kind, len(got.Blocks))
			}
		}
	}
	for kind, key := range map[string]string{"berth": "mark", "service": "like"} {
		for _, count := range []int{9, 10, 11} {
			s := sheetOf(blockOf(kind, "a", manyLines(key, count)...), blockOf(kind, "b"))
			checkDefaults(t, fmt.Sprint(count, " lines"), s)
			want := 2
			if count > 10 {
				want = 0
			}
			if got := impl.SheetFill(s); len(got.Blocks) != want || len(impl.SheetTrim(s).Blocks) != want {
				t.Errorf("%d lines: %d blocks", count, len(got.Blocks))
			}
		}
	}
}

// A sheet may be too long for a text, or become so; it is filled all the same.
func TestSheetFillTooLongForAText(t *testing.T) {
	blocks := manyBlocks("service", 60)
	for i := range blocks {
		blocks[i].Lines = []sheetLine{said("where", strings.Repeat("\xff", 200))}
	}
	s := sheetOf(blocks...)
	checkDefaults(t, "a sheet that has no text", s)
	if impl.SheetPrint(s) != "" || len(impl.SheetFill(s).Blocks) != 60 {
		t.Error("it has a text, or is not filled")
	}
	short := sheetOf(manyBlocks("service", 60)...)
	if filled := impl.SheetFill(short); impl.SheetPrint(short) == "" || impl.SheetPrint(filled) != "" || len(filled.Blocks) != 60 {
		t.Error("a sheet that has no text when it is filled")
	}
}

// sharing is a valid sheet whose lists share memory among each other.
func sharing() sheet {
	words := texts{"1", "1", "1000", "5", "6", "7"}
	rooms := []sheetLine{said("room", words[2:3]...), said("copies", words[3:4]...)}
	lines := []sheetLine{said("image", words[:1]...), said("want", words[:1]...), said("needs", words[:2]...), said("follow", words[3:]...), said("pace", words[3:]...)}
	return sheetOf(blockOf("berth", "a", rooms[:1]...), blockOf("service", "a", lines...), blockOf("service", "b", lines[:3]...), blockOf("service", "c", lines[1:]...), blockOf("team", "a", rooms[:1]...), blockOf("team", "b", rooms[:1]...))
}

// Lists of an argument may share memory; those of an answer do not.
func TestSheetDefaultsOfSharedLists(t *testing.T) {
	s := sharing()
	before := whole(s)
	filled, trimmed := impl.SheetFill(s), impl.SheetTrim(s)
	newMemory(t, "filled", filled, s)
	newMemory(t, "trimmed", trimmed, s)
	if !same(filled, sheetFillAsRead(s)) || !same(trimmed, sheetTrimAsRead(s)) || len(filled.Blocks) != 6 {
		t.Errorf("filled %q, trimmed %q", filled, trimmed)
	}
	for _, b := range s.Blocks {
		checkGetsOf(t, "shared lists", b.Kind, b.Name, s, filled, trimmed)
	}
	if !same(whole(s), before) {
		t.Error("the sheet is changed")
	}
}

// spoilAll writes something into all that a value has, and behind the ends of its lists.
func spoilAll[T any](value *T) {
	var spoil func(v reflect.Value)
	spoil = func(v reflect.Value) {
		eachPart(v, true, spoil)
		mark(v)
	}
	spoil(reflect.ValueOf(value).Elem())
}

// Whatever is written into an answer, neither the sheet nor a later answer has it.
func TestSheetDefaultsAreNotKept(t *testing.T) {
	made := func() sheet {
		return sheetOf(blockOf("berth", "a", said("mark", "m")), blockOf("service", "a", said("want", "1"), said("like", "a", "1")), blockOf("team", "a"), blockOf("team", "b", said("room", "1000")))
	}
	s := made()
	for range 3 {
		for _, b := range made().Blocks {
			for _, rule := range sheetTable()[b.Kind] {
				if lines, there := impl.SheetGet(s, b.Kind, b.Name, rule.Key); there {
					spoilAll(&lines)
				}
			}
			checkGetsOf(t, "behind a change of an answer", b.Kind, b.Name, s)
		}
		filled, trimmed := impl.SheetFill(s), impl.SheetTrim(s)
		if !same(filled, sheetFillAsRead(made())) || !same(trimmed, sheetTrimAsRead(made())) || !same(s, made()) {
			t.Error("a change of an answer is seen")
		}
		spoilAll(&filled)
		spoilAll(&trimmed)
	}
}

// What is far too great is answered all the same.
func TestSheetDefaultsGreat(t *testing.T) {
	great := strings.Repeat("a", 1<<20)
	lines := slices.Repeat([]sheetLine{said("mark", "m")}, 1<<16)
	for what, s := range map[string]sheet{
		"a great kind": sheetOf(blockOf(great, "a")),
		"a great name": sheetOf(blockOf("team", great)),
		"a great key":  sheetOf(blockOf("team", "a", said(great, "1"))),
		"a great word": sheetOf(blockOf("service", "a", said("where", great))),
		"many words":   sheetOf(blockOf("service", "a", said("pace", slices.Repeat(texts{"0"}, 1<<16)...))),
		"many lines":   sheetOf(blockOf("berth", "a", lines...)),
		"many blocks":  {Blocks: make([]sheetBlock, 1<<20)},
	} {
		if got := len(impl.SheetFill(s).Blocks) + len(impl.SheetTrim(s).Blocks) + len(impl.SheetOver(s, s).Blocks) + len(impl.SheetOver(sheet{}, s).Blocks) + len(impl.SheetOver(s, sheet{}).Blocks); got != 0 {
			t.Errorf("%s: %d blocks", what, got)
		}
		for _, kind := range append(sheetKinds(), "", great) {
			if lines, there := impl.SheetGet(s, kind, "a", "room"); there || len(lines) != 0 {
				t.Errorf("%s: %q", what, lines)
			}
		}
	}
}
