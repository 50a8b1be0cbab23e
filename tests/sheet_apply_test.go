package tests

import (
	"fmt"
	"slices"
	"sort"
	"strings"
	"testing"

	"loop.example/wharfdesk/impl"
)

// sheetChangeAsRead is a sheet behind a change, by the document's words; false if the change cannot be made.
func sheetChangeAsRead(s sheet, c sheetChange) (sheet, bool) {
	var others []sheetBlock
	for _, b := range s.Blocks {
		if b.Kind != c.Kind || b.Name != c.Name {
			others = append(others, b)
		}
	}
	old, there := blockIn(s, c.Kind, c.Name)
	block := blockOf(c.Kind, c.Name)
	for _, line := range old.Lines {
		if line.Key != c.Key {
			block.Lines = append(block.Lines, line)
		}
	}
	switch {
	case c.What == 1 && there && c.Key == "" && len(c.Lines) == 0:
		return sheet{Blocks: others}, true
	case c.What == 2 && !there && c.Key == "":
		block.Lines = c.Lines
	case c.What == 3 && there && len(c.Lines) > 0 && linesOf(c.Key, c.Lines) == len(c.Lines):
		block.Lines = append(block.Lines, c.Lines...)
		sort.SliceStable(block.Lines, func(i, j int) bool { return lineBefore(c.Kind, block.Lines[i], block.Lines[j]) })
	case c.What == 4 && there && len(c.Lines) == 0 && linesOf(c.Key, old.Lines) > 0:
	default:
		return sheet{}, false
	}
	blocks := append(others, block)
	sort.SliceStable(blocks, func(i, j int) bool { return blockBefore(blocks[i], blocks[j]) })
	return sheet{Blocks: blocks}, sheetValidAsRead(sheet{Blocks: blocks})
}

func sheetApplyAsRead(a sheet, list []sheetChange) (sheet, int) {
	if !sheetValidAsRead(a) {
		return sheet{}, 1
	}
	for i, c := range list {
		next, can := sheetChangeAsRead(a, c)
		if !can {
			return sheet{}, 2 + i
		}
		a = next
	}
	return a, 0
}

// checkApply says that changes are made as the document says, that the answer is new and all is as it was, and promise 54.
func checkApply(t *testing.T, what string, a sheet, list []sheetChange) (sheet, int) {
	t.Helper()
	a, list = spread(a), spread(list)
	aBefore, listBefore := whole(a), whole(list)
	got, code := impl.SheetApply(a, list)
	if want, wantCode := sheetApplyAsRead(a, list); code != wantCode || !same(got, want) {
		t.Errorf("%s: %s makes %.600q of %.600q, with code %d, not %.600q, with code %d", what, shown(list), got, a, code, want, wantCode)
	}
	again, _ := impl.SheetApply(a, list)
	newMemory(t, what, got, a, list, again)
	if !same(whole(a), aBefore) || !same(whole(list), listBefore) {
		t.Errorf("%s: the sheet, or a change, is changed", what)
	}
	if !impl.SheetValid(got) {
		t.Errorf("promise 54: %s: %s makes %.600q of %.600q, which is not valid", what, shown(list), got, a)
	}
	if code != 0 && len(got.Blocks) != 0 {
		t.Errorf("%s: with code %d there are blocks", what, code)
	}
	return got, code
}

// checkMakes says what changes make of a sheet.
func checkMakes(t *testing.T, what string, a, want sheet, list ...sheetChange) {
	t.Helper()
	if got, code := checkApply(t, what, a, list); code != 0 || !same(got, want) {
		t.Errorf("%s: %.600q, with code %d, not %.600q", what, got, code, want)
	}
}

// checkWrong says that a change cannot be made to a sheet: alone, behind others that can, ahead of others, and twice.
func checkWrong(t *testing.T, what string, a sheet, c sheetChange) {
	t.Helper()
	good := []sheetChange{newBlock("team zz-1"), setLines("team zz-1", "room", said("room", "5")), unsetLines("team zz-1", "room"), goneBlock("team zz-1")}
	if len(a.Blocks) >= 60 {
		good = nil
	}
	for ahead := 0; ahead <= len(good); ahead += 2 {
		for _, behind := range [][]sheetChange{nil, good, {{}}, {c}} {
			list := slices.Concat(good[:ahead], []sheetChange{c}, behind)
			if _, code := checkApply(t, what, a, list); code != 2+ahead {
				t.Errorf("%s: %s: code %d", what, shown(list), code)
			}
		}
	}
}

// changeSheet has blocks of each kind, with lines and without.
func changeSheet() sheet {
	return sheetOf(
		blockOf("berth", "a", said("zone", "y"), said("mark", "l"), said("mark", "m")),
		blockOf("berth", "b"),
		blockOf("service", "a", said("image", "2"), said("like", "a", "1"), said("like", "b", "-1"), said("volume", "yes")),
		blockOf("service", "b"),
		blockOf("team", "a", said("room", "5")),
		blockOf("team", "c"),
	)
}

// but is the sheet above with another block in place of the one of its kind and name, or with it besides; without one that has no kind.
func but(replaced ...sheetBlock) sheet {
	blocks := changeSheet().Blocks
	for _, b := range replaced {
		blocks = slices.DeleteFunc(blocks, func(old sheetBlock) bool { return old.Kind == b.Kind && old.Name == b.Name })
		blocks = append(blocks, b)
	}
	return sheetInOrder(blocks)
}

// without is the sheet above without a block.
func without(kind, name string) sheet {
	return sheet{Blocks: slices.DeleteFunc(changeSheet().Blocks, func(b sheetBlock) bool { return b.Kind == kind && b.Name == name })}
}

func TestSheetApplyNoChanges(t *testing.T) {
	for _, s := range []sheet{{}, changeSheet(), getSheet(), sharing(), sheetOf(manyBlocks("team", 60)...)} {
		checkMakes(t, "no changes", s, s)
		checkMakes(t, "no changes", s, s, []sheetChange{}...)
	}
}

// A sheet that is not valid is told ahead of all else.
func TestSheetApplyNotValid(t *testing.T) {
	bad := sheetsNotValid()
	bad["a block of nothing"] = sheetOf(sheetBlock{})
	bad["lines out of order"] = sheetOf(blockOf("berth", "a", said("mark", "m"), said("mark", "l")))
	for what, s := range bad {
		lists := [][]sheetChange{nil, {newBlock("team q")}, {{}}, {goneBlock("team q")}, {{What: 9}, newBlock("team q")}}
		for _, b := range s.Blocks {
			mends := sheetChange{What: 1, Kind: b.Kind, Name: b.Name}
			lists = append(lists, []sheetChange{mends}, []sheetChange{mends, mends})
		}
		for _, list := range lists {
			if _, code := checkApply(t, what, s, list); code != 1 {
				t.Errorf("%s: %s: code %d", what, shown(list), code)
			}
		}
	}
}

func TestSheetApplyGone(t *testing.T) {
	s := changeSheet()
	for _, b := range s.Blocks {
		checkMakes(t, "a block goes", s, without(b.Kind, b.Name), goneBlock(b.Kind+" "+b.Name))
		checkMakes(t, "the only one goes", sheetOf(b), sheet{}, goneBlock(b.Kind+" "+b.Name))
		checkWrong(t, "another one's key", s, sheetChange{What: 1, Kind: b.Kind, Name: b.Name, Key: "room"})
		checkWrong(t, "lines", s, sheetChange{What: 1, Kind: b.Kind, Name: b.Name, Lines: []sheetLine{said("room", "5")}})
		checkWrong(t, "a line of nothing", s, sheetChange{What: 1, Kind: b.Kind, Name: b.Name, Lines: []sheetLine{{}}})
		for i, line := range b.Lines {
			checkWrong(t, "its own key", s, sheetChange{What: 1, Kind: b.Kind, Name: b.Name, Key: line.Key})
			checkWrong(t, "its own lines", s, sheetChange{What: 1, Kind: b.Kind, Name: b.Name, Lines: b.Lines[:i+1]})
			checkWrong(t, "its own key, with its lines", s, sheetChange{What: 1, Kind: b.Kind, Name: b.Name, Key: line.Key, Lines: linesWith(line.Key, b.Lines)})
		}
	}
	for _, head := range []string{"team b", "team ", "berth c", "service c", " a", "zone a", "Team a", "team A", "team aa", "tea a", "team a ", "team  a", "", " "} {
		checkWrong(t, "no such block", s, goneBlock(head))
		checkWrong(t, "no block at all", sheet{}, goneBlock(head))
	}
	checkWrong(t, "twice", without("team", "a"), goneBlock("team a"))
	if _, code := checkApply(t, "twice", s, []sheetChange{goneBlock("team a"), goneBlock("team a")}); code != 3 {
		t.Errorf("twice: code %d", code)
	}
}

func TestSheetApplyNew(t *testing.T) {
	s := changeSheet()
	for _, head := range []string{"berth -", "berth aa", "berth z", "service 0", "service c", "service zz", "team 0", "team b", "team z", "team " + letters(20)} {
		kind, name, _ := strings.Cut(head, " ")
		var all []sheetLine
		for _, rule := range sheetTable()[kind] {
			line := said(rule.Key, sheetFitting(rule, 3)...)
			all = append(all, line)
			b := blockOf(kind, name, line)
			checkMakes(t, "one line", s, but(b), newBlock(head, line))
			checkMakes(t, "one line, the only block", sheet{}, sheetOf(b), newBlock(head, line))
			checkWrong(t, "a key", s, withKey(newBlock(head, line), rule.Key))
			checkWrong(t, "a line twice", s, newBlock(head, line, line))
		}
		checkMakes(t, "all keys", s, but(blockOf(kind, name, all...)), newBlock(head, all...))
		checkMakes(t, "no lines", s, but(blockOf(kind, name)), newBlock(head))
		checkWrong(t, "a key and no lines", s, withKey(newBlock(head), "room"))
		checkWrong(t, "a line of nothing", s, newBlock(head, sheetLine{}))
		for i := range all {
			for j := range i {
				checkMakes(t, "two lines in their order", sheet{}, sheetOf(blockOf(kind, name, all[j], all[i])), newBlock(head, all[j], all[i]))
				checkWrong(t, "two lines out of their order", s, newBlock(head, all[i], all[j]))
			}
		}
	}
}

// withKey is a change with a key.
func withKey(c sheetChange, key string) sheetChange {
	c.Key = key
	return c
}

func TestSheetApplyNewWrong(t *testing.T) {
	s := changeSheet()
	for _, b := range s.Blocks {
		checkWrong(t, "a block that is there", s, newBlock(b.Kind+" "+b.Name))
		checkWrong(t, "the very block", s, newBlock(b.Kind+" "+b.Name, b.Lines...))
	}
	for _, kind := range sheetOtherKinds() {
		checkWrong(t, "no such kind", sheetOf(blockOf("team", "a")), sheetChange{What: 2, Kind: kind, Name: "b"})
	}
	for _, name := range sheetSamplesBy[3].unfit {
		checkWrong(t, "no name", sheetOf(blockOf("team", "a")), sheetChange{What: 2, Kind: "team", Name: name})
	}
	for _, name := range sheetSamplesBy[3].fit {
		checkMakes(t, "a name", sheet{}, sheetOf(blockOf("team", name)), sheetChange{What: 2, Kind: "team", Name: name})
	}
	for _, line := range []sheetLine{said("zip", "1"), said("", "1"), said("room"), said("room", "x"), said("room", "1", "2"), said("Room", "1"), said("zone", "z"), said("copies", "01"), said("copies", "1000001")} {
		checkWrong(t, "a line that does not fit", s, newBlock("team q", line))
		checkWrong(t, "a line that does not fit, behind one that does", s, newBlock("team q", said("copies", "1"), line))
	}
	checkWrong(t, "two lines of a key that is not many", s, newBlock("team q", said("room", "1"), said("room", "2")))
	checkWrong(t, "marks out of their order", s, newBlock("berth q", said("mark", "m"), said("mark", "l")))
	checkWrong(t, "a mark twice", s, newBlock("berth q", said("mark", "m"), said("mark", "m")))
	checkWrong(t, "likes out of their order", s, newBlock("service q", said("like", "a", "2"), said("like", "a", "1")))
	checkMakes(t, "likes in their order, byte by byte", s, but(blockOf("service", "q", said("like", "a", "10"), said("like", "a", "9"))), newBlock("service q", said("like", "a", "10"), said("like", "a", "9")))
	checkWrong(t, "a mark ahead of a room", s, newBlock("berth q", said("mark", "m"), said("room", "1")))
}

func TestSheetApplySet(t *testing.T) {
	s := changeSheet()
	for _, b := range s.Blocks {
		head := b.Kind + " " + b.Name
		for place, rule := range sheetTable()[b.Kind] {
			line := said(rule.Key, sheetFitting(rule, 5)...)
			var want []sheetLine
			for _, old := range b.Lines {
				if at, _ := sheetKey(b.Kind, old.Key); at != place {
					want = append(want, old)
				}
			}
			want = append(want, line)
			checkMakes(t, "a line", s, but(blockOf(b.Kind, b.Name, want...)), setLines(head, rule.Key, line))
			checkMakes(t, "a line, twice over", s, but(blockOf(b.Kind, b.Name, want...)), setLines(head, rule.Key, line), setLines(head, rule.Key, line))
			checkWrong(t, "no lines", s, setLines(head, rule.Key))
			checkWrong(t, "a line twice", s, setLines(head, rule.Key, line, line))
			checkWrong(t, "no key", s, setLines(head, "", line))
			checkWrong(t, "a line of nothing", s, setLines(head, rule.Key, sheetLine{}))
			checkWrong(t, "a line of nothing besides", s, setLines(head, rule.Key, line, sheetLine{}))
			checkWrong(t, "one word too many", s, setLines(head, rule.Key, said(rule.Key, append(slices.Clone(line.Words), "1")...)))
			checkWrong(t, "one word too few", s, setLines(head, rule.Key, said(rule.Key, line.Words[1:]...)))
			for _, other := range sheetTable()[b.Kind] {
				if other.Key == rule.Key {
					continue
				}
				also := said(other.Key, sheetFitting(other, 5)...)
				checkWrong(t, "a line of another key", s, setLines(head, other.Key, line))
				checkWrong(t, "a line of another key besides", s, setLines(head, rule.Key, line, also))
				checkWrong(t, "a line of another key ahead", s, setLines(head, rule.Key, also, line))
			}
		}
	}
}

// Lines of a key that is many are put in their order; those that were are no more.
func TestSheetApplySetMany(t *testing.T) {
	for kind, key := range map[string]string{"berth": "mark", "service": "like"} {
		ten := manyLines(key, 10)
		for count := 1; count <= 10; count++ {
			for _, before := range [][]sheetLine{nil, ten[:2], ten[5:], ten} {
				want := sheetOf(blockOf(kind, "x", ten[:count]...))
				turned := slices.Clone(ten[:count])
				slices.Reverse(turned)
				rolled := append(slices.Clone(ten[count/2:count]), ten[:count/2]...)
				for _, lines := range [][]sheetLine{ten[:count], turned, rolled} {
					checkMakes(t, "lines in any order", sheetOf(blockOf(kind, "x", before...)), want, setLines(kind+" x", key, lines...))
					checkWrong(t, "the first one twice", sheetOf(blockOf(kind, "x", before...)), setLines(kind+" x", key, append(slices.Clone(lines), lines[0])...))
					checkWrong(t, "the last one twice", sheetOf(blockOf(kind, "x", before...)), setLines(kind+" x", key, append(slices.Clone(lines), lines[count-1])...))
				}
			}
		}
		for count := 11; count <= 13; count++ {
			checkWrong(t, "too many lines", sheetOf(blockOf(kind, "x")), setLines(kind+" x", key, manyLines(key, count)...))
			checkWrong(t, "too many lines, of a new block", sheet{}, newBlock(kind+" x", manyLines(key, count)...))
		}
		checkMakes(t, "ten lines of a new block", sheet{}, sheetOf(blockOf(kind, "x", ten...)), newBlock(kind+" x", ten...))
	}
	s := changeSheet()
	checkMakes(t, "among others", s, but(blockOf("service", "a", said("image", "2"), said("like", "", "0"), said("like", "a", "10"), said("like", "a", "9"), said("like", "c", "1"), said("volume", "yes"))),
		setLines("service a", "like", said("like", "c", "1"), said("like", "a", "9"), said("like", "", "0"), said("like", "a", "10")))
}

func TestSheetApplySetWrong(t *testing.T) {
	s := changeSheet()
	room := said("room", "7")
	for _, head := range []string{"team b", "team ", "berth c", " a", "zone a", "Team a", "team A", "team aa", "", " "} {
		checkWrong(t, "no such block", s, setLines(head, "room", room))
		checkWrong(t, "no block at all", sheet{}, setLines(head, "room", room))
	}
	for _, kind := range sheetOtherKinds() {
		checkWrong(t, "no such kind", s, sheetChange{What: 3, Kind: kind, Name: "a", Key: "room", Lines: []sheetLine{room}})
	}
	for _, key := range []string{"zip", "", "Room", "rooms", "roo", "end", "team", "mark", "zone", letters(1000)} {
		checkWrong(t, "no such key", s, setLines("team a", key, said(key, "7")))
		checkWrong(t, "no such key", s, setLines("team a", key, said(key)))
	}
	checkWrong(t, "two lines of a key that is not many", s, setLines("team a", "room", said("room", "1"), said("room", "2")))
	checkWrong(t, "words of another type", s, setLines("team a", "room", said("room", "x")))
	checkWrong(t, "a key of another kind", s, setLines("service a", "room", room))
	checkMakes(t, "the line that is there", s, s, setLines("team a", "room", said("room", "5")))
	checkMakes(t, "the lines that are there", s, s, setLines("berth a", "mark", said("mark", "m"), said("mark", "l")))
}

func TestSheetApplyUnset(t *testing.T) {
	s := changeSheet()
	for _, b := range s.Blocks {
		head := b.Kind + " " + b.Name
		for _, rule := range sheetTable()[b.Kind] {
			lines := linesWith(rule.Key, b.Lines)
			if len(lines) == 0 {
				checkWrong(t, "no line of the key", s, unsetLines(head, rule.Key))
				continue
			}
			left := slices.DeleteFunc(slices.Clone(b.Lines), func(line sheetLine) bool { return line.Key == rule.Key })
			checkMakes(t, "the lines of a key", s, but(blockOf(b.Kind, b.Name, left...)), unsetLines(head, rule.Key))
			checkWrong(t, "lines", s, sheetChange{What: 4, Kind: b.Kind, Name: b.Name, Key: rule.Key, Lines: lines})
			checkWrong(t, "a line of nothing", s, sheetChange{What: 4, Kind: b.Kind, Name: b.Name, Key: rule.Key, Lines: []sheetLine{{}}})
			checkWrong(t, "no such block", s, unsetLines(b.Kind+" zz", rule.Key))
			if _, code := checkApply(t, "twice", s, []sheetChange{unsetLines(head, rule.Key), unsetLines(head, rule.Key)}); code != 3 {
				t.Errorf("twice: code %d", code)
			}
		}
		for _, key := range []string{"", "zip", "Room", "end", "roo", b.Kind, letters(1000)} {
			checkWrong(t, "no such key", s, unsetLines(head, key))
		}
	}
	checkWrong(t, "no block at all", sheet{}, unsetLines("team a", "room"))
	checkWrong(t, "no kind", s, unsetLines("zone a", "room"))
	checkWrong(t, "nothing", s, unsetLines("", ""))
}

// A What that is none, with all that any of them may have.
func TestSheetApplyNoWhat(t *testing.T) {
	s := changeSheet()
	for _, what := range []int{0, 5, -1, 6, 10, 256, 257, 1 << 32, 1<<32 + 1, -1 << 63, 1<<63 - 1} {
		for _, head := range []string{"team a", "team b", "berth a", ""} {
			for _, c := range []sheetChange{goneBlock(head), newBlock(head, said("room", "5")), setLines(head, "room", said("room", "7")), unsetLines(head, "room"), unsetLines(head, "mark")} {
				c.What = what
				checkWrong(t, fmt.Sprint("What is ", what), s, c)
				checkWrong(t, fmt.Sprint("What is ", what), sheet{}, c)
			}
		}
	}
}

// Changes are made one after the other: each finds what those ahead of it have made.
func TestSheetApplyInTurn(t *testing.T) {
	s := changeSheet()
	room, copies := said("room", "8"), said("copies", "9")
	checkMakes(t, "a block goes, and comes anew", s, but(blockOf("team", "a", copies)), goneBlock("team a"), newBlock("team a", copies))
	checkMakes(t, "a block comes, and goes", s, s, newBlock("team b", room), goneBlock("team b"))
	checkMakes(t, "a block comes, and is changed", s, but(blockOf("team", "b", copies, room)), newBlock("team b", room), setLines("team b", "copies", copies))
	checkMakes(t, "a line is set, and unset", s, s, setLines("team c", "room", room), unsetLines("team c", "room"))
	checkMakes(t, "a line is set again", s, but(blockOf("team", "c", room)), setLines("team c", "room", said("room", "1")), setLines("team c", "room", room))
	checkMakes(t, "keys in any order", s, but(blockOf("team", "c", copies, room)), setLines("team c", "room", room), setLines("team c", "copies", copies))
	checkMakes(t, "blocks in any order", s, but(blockOf("team", "b"), blockOf("berth", "0"), blockOf("team", "0")), newBlock("team b"), newBlock("berth 0"), newBlock("team 0"))
	checkMakes(t, "all go", sheetOf(s.Blocks[:3]...), sheet{}, goneBlock("service a"), goneBlock("berth a"), goneBlock("berth b"))
	for i, c := range []struct {
		place int
		list  []sheetChange
	}{
		{1, []sheetChange{goneBlock("team a"), setLines("team a", "room", room)}},
		{1, []sheetChange{goneBlock("team a"), unsetLines("team a", "room")}},
		{1, []sheetChange{newBlock("team b"), newBlock("team b")}},
		{0, []sheetChange{setLines("team b", "room", room), newBlock("team b")}},
		{0, []sheetChange{newBlock("team a"), goneBlock("team a")}},
		{2, []sheetChange{goneBlock("team a"), newBlock("team a"), unsetLines("team a", "room")}},
		{3, []sheetChange{newBlock("team b"), setLines("team b", "room", room), unsetLines("team b", "room"), unsetLines("team b", "room")}},
		{1, []sheetChange{newBlock("team b"), setLines("team b", "room"), {What: 7}, {}}},
		{2, []sheetChange{newBlock("team b"), newBlock("team d"), {What: 7}, newBlock("team b")}},
	} {
		if _, code := checkApply(t, "in turn", s, c.list); code != 2+c.place {
			t.Errorf("case %d: code %d", i, code)
		}
	}
}

// The place that is told is that of the first change that is wrong, also far behind.
func TestSheetApplyPlaces(t *testing.T) {
	s := changeSheet()
	wrongs := []sheetChange{{}, {What: 5}, goneBlock("team q"), newBlock("team a"), newBlock("zone q"), setLines("team a", "room"), unsetLines("team c", "copies"), setLines("team a", "room", said("room", "x"))}
	for _, count := range []int{1, 2, 7, 100, 1000} {
		var list []sheetChange
		for i := range count {
			list = append(list, setLines("team c", "room", said("room", fmt.Sprint(i))))
		}
		checkMakes(t, "many changes", s, but(blockOf("team", "c", said("room", fmt.Sprint(count-1)))), list...)
		for n, wrong := range wrongs {
			for _, place := range []int{0, count / 3, count / 2, count - 1} {
				spoilt := slices.Clone(list)
				spoilt[count-1] = wrongs[(n+1)%len(wrongs)]
				spoilt[place] = wrong
				if _, code := checkApply(t, "a wrong one among many", s, spoilt); code != 2+place {
					t.Errorf("at place %d: code %d", place, code)
				}
			}
		}
	}
}

// Sixty blocks, and one more: behind each change the sheet has to be valid, whatever comes later.
func TestSheetApplyHowManyBlocks(t *testing.T) {
	all := manyBlocks("service", 61)
	sixty := sheetOf(all[:60]...)
	checkMakes(t, "the sixtieth", sheetOf(all[:59]...), sixty, newBlock("service n0059"))
	checkWrong(t, "one too many", sixty, newBlock("service n0060"))
	checkWrong(t, "one too many, of another kind", sixty, newBlock("team a"))
	checkWrong(t, "one too many, with lines", sixty, newBlock("berth a", said("mark", "m")))
	checkMakes(t, "one goes, another one comes", sixty, sheetOf(all[1:]...), goneBlock("service n0000"), newBlock("service n0060"))
	if _, code := checkApply(t, "one comes, another one goes", sixty, []sheetChange{newBlock("service n0060"), goneBlock("service n0000")}); code != 2 {
		t.Errorf("one comes, another one goes: code %d", code)
	}
	checkMakes(t, "each may change", sixty, sheetOf(append(slices.Clone(all[:59]), blockOf("service", "n0059", said("want", "2")))...), setLines("service n0059", "want", said("want", "2")))
	var news, goes []sheetChange
	for _, b := range all {
		news, goes = append(news, newBlock("service "+b.Name)), append(goes, goneBlock("service "+b.Name))
	}
	checkMakes(t, "sixty come", sheet{}, sixty, news[:60]...)
	checkMakes(t, "sixty go", sixty, sheet{}, goes[:60]...)
	slices.Reverse(news)
	checkMakes(t, "sixty come, the last one first", sheet{}, sheetOf(all[1:]...), news[:60]...)
	for _, c := range []struct {
		a    sheet
		list []sheetChange
	}{{sheet{}, news}, {sixty, goes}} {
		if _, code := checkApply(t, "sixty-one", c.a, c.list); code != 2+60 {
			t.Errorf("sixty-one: code %d", code)
		}
	}
}

// The lists of the sheet and the changes may share memory, also with each other; those of the answer do not.
func TestSheetApplySharedLists(t *testing.T) {
	s := sharing()
	like := []sheetLine{said("like", "a", "1")}
	list := []sheetChange{
		newBlock("berth b", s.Blocks[0].Lines...), newBlock("team c", s.Blocks[4].Lines...), newBlock("service d", s.Blocks[1].Lines...), newBlock("service e", s.Blocks[1].Lines...),
		setLines("team a", "room", s.Blocks[0].Lines...), setLines("team b", "room", s.Blocks[0].Lines...), setLines("service a", "like", like...), setLines("service b", "like", like...), unsetLines("service c", "want"), goneBlock("berth a"),
	}
	before, listBefore := whole(s), whole(list)
	got, code := impl.SheetApply(s, list)
	newMemory(t, "shared lists", got, s, list)
	if want, _ := sheetApplyAsRead(s, list); code != 0 || !same(got, want) || len(got.Blocks) != 9 {
		t.Errorf("%q, code %d", got, code)
	}
	if !same(whole(s), before) || !same(whole(list), listBefore) {
		t.Error("the sheet, or a change, is changed")
	}
	none, _ := impl.SheetApply(s, nil)
	newMemory(t, "shared lists, no changes", none, s)
}

// Whatever is written into an answer, neither argument nor a later answer has it.
func TestSheetApplyIsNotKept(t *testing.T) {
	made := func() (sheet, []sheetChange) {
		return changeSheet(), []sheetChange{newBlock("team b", said("room", "6")), setLines("berth a", "mark", said("mark", "z"), said("mark", "b")), unsetLines("team a", "room"), goneBlock("service b"), setLines("service a", "image", said("image", "3"))}
	}
	s, list := made()
	want, _ := sheetApplyAsRead(made())
	for range 3 {
		got, code := impl.SheetApply(s, list)
		wantSheet, wantList := made()
		if code != 0 || !same(got, want) || !same(s, wantSheet) || !same(list, wantList) {
			t.Errorf("a change of an answer is seen: %q", got)
		}
		spoilAll(&got)
	}
}

// What is far too great is answered all the same.
func TestSheetApplyGreat(t *testing.T) {
	great := strings.Repeat("a", 1<<20)
	marks := slices.Repeat([]sheetLine{said("mark", "m")}, 1<<16)
	for what, c := range map[string]sheetChange{
		"a great kind":      newBlock(great + " a"),
		"a great name":      newBlock("team " + great),
		"a great name goes": goneBlock("team " + great),
		"a great key":       setLines("team a", great, said(great, "1")),
		"no great key":      unsetLines("team a", great),
		"a great word":      setLines("service a", "where", said("where", great)),
		"many words":        setLines("service a", "pace", said("pace", slices.Repeat(texts{"0"}, 1<<16)...)),
		"many lines":        setLines("berth a", "mark", marks...),
		"many new lines":    newBlock("berth q", marks...),
	} {
		if got, code := impl.SheetApply(changeSheet(), []sheetChange{c}); code != 2 || len(got.Blocks) != 0 {
			t.Errorf("%s: code %d", what, code)
		}
	}
	if _, code := impl.SheetApply(changeSheet(), make([]sheetChange, 1<<20)); code != 2 {
		t.Errorf("many changes of nothing: code %d", code)
	}
	turns := slices.Repeat([]sheetChange{newBlock("team b"), goneBlock("team b")}, 1<<14)
	if got, code := impl.SheetApply(changeSheet(), turns); code != 0 || !same(got, changeSheet()) {
		t.Errorf("many changes: code %d", code)
	}
	if _, code := impl.SheetApply(changeSheet(), append(turns, sheetChange{})); code != 2+1<<15 {
		t.Errorf("many changes, the last one wrong: code %d", code)
	}
}
