package tests

import (
	"fmt"
	"slices"
	"strings"
	"testing"

	"loop.example/wharfdesk/impl"
)

// manyBlocks are blocks of a kind without lines, in order.
func manyBlocks(kind string, count int) []sheetBlock {
	var list []sheetBlock
	for i := range count {
		list = append(list, blockOf(kind, fmt.Sprintf("n%04d", i)))
	}
	return list
}

// manyLines are lines of a key that is many, in order.
func manyLines(key string, count int) []sheetLine {
	var list []sheetLine
	for i := range count {
		line := said(key, fmt.Sprintf("m%04d", i))
		if key == "like" {
			line.Words = append(line.Words, "5")
		}
		list = append(list, line)
	}
	return list
}

// checkLines says whether a block may have these lines, alone and among other blocks.
func checkLines(t *testing.T, what string, valid bool, kind string, lines ...sheetLine) {
	t.Helper()
	checkSheet(t, what, sheetOf(blockOf(kind, "m", lines...)), valid)
	checkSheet(t, what+", first of three", sheetOf(blockOf(kind, "m", lines...), blockOf(kind, "n"), blockOf(kind, "o")), valid)
	checkSheet(t, what+", last of three", sheetOf(blockOf(kind, "k"), blockOf(kind, "l"), blockOf(kind, "m", lines...)), valid)
}

func TestSheetValidOrdinary(t *testing.T) {
	checkSheet(t, "nothing", sheet{}, true)
	checkSheet(t, "nothing", sheet{Blocks: []sheetBlock{}}, true)
	checkSheet(t, "a fleet", sheetOf(
		blockOf("berth", "b-1", said("zone", "east"), said("room", "8"), said("hold", "5"), said("mark", "fast"), said("mark", "ssd")),
		blockOf("berth", "b-2"),
		blockOf("service", "db", said("where", "zone=east & ssd"), said("volume", "yes")),
		blockOf("service", "web", said("team", "core"), said("image", "2"), said("want", "3"), said("needs", "1", "2"), said("like", "a b", "-1"), said("like", "ssd", "5"), said("apart", "zone"), said("follow", "1", "2", "3"), said("pace", "0", "0", "9")),
		blockOf("team", "core", said("copies", "10"), said("room", "20")),
	), true)
}

func TestSheetValidBlocks(t *testing.T) {
	check := func(what string, valid bool, heads ...string) {
		t.Helper()
		var s sheet
		for _, head := range heads {
			kind, name, _ := strings.Cut(head, " ")
			s.Blocks = append(s.Blocks, blockOf(kind, name))
		}
		checkSheet(t, what, s, valid)
	}
	check("ascending by kind", true, "berth a", "service a", "team a")
	check("ascending by kind, not by name", true, "berth z", "service m", "team a")
	check("ascending by name", true, "team a", "team b", "team c")
	check("ascending by name, byte by byte", true, "team -", "team --", "team -a", "team 0", "team 10", "team 9", "team a", "team a-", "team a0", "team aa", "team b")
	check("two alike", false, "team a", "team a")
	check("two alike behind others", false, "berth a", "service a", "team a", "team a")
	check("two alike ahead of others", false, "berth a", "berth a", "service a", "team a")
	check("two alike apart", false, "team a", "team b", "team a")
	check("the wrong way round by kind", false, "team a", "berth b")
	check("the wrong way round by kind, of one name", false, "service a", "berth a")
	check("the wrong way round by kind at the end", false, "berth a", "team a", "service z")
	check("the wrong way round by name", false, "team b", "team a")
	check("the wrong way round by name at the end", false, "berth a", "team a", "team c", "team b")
	check("a longer name ahead of its beginning", false, "team aa", "team a")
	check("names that are numbers", false, "team 9", "team 10")
}

func TestSheetValidBlocksWithLines(t *testing.T) {
	room := said("room", "1")
	checkSheet(t, "blocks with other lines are alike", sheetOf(blockOf("team", "a", room), blockOf("team", "a")), false)
	checkSheet(t, "blocks with other lines are alike", sheetOf(blockOf("team", "a"), blockOf("team", "a", room)), false)
	checkSheet(t, "two blocks with one line", sheetOf(blockOf("team", "a", room), blockOf("team", "b", room)), true)
	checkSheet(t, "a fault in the first block", sheetOf(blockOf("team", "a", room, room), blockOf("team", "b")), false)
	checkSheet(t, "a fault in the last block", sheetOf(blockOf("team", "a", room), blockOf("team", "b", room, room)), false)
}

func TestSheetValidHowManyBlocks(t *testing.T) {
	for _, count := range []int{1, 2, 59, 60, 61, 62, 120, 1000} {
		for _, kind := range sheetKinds() {
			checkSheet(t, fmt.Sprint(count, " blocks"), sheetOf(manyBlocks(kind, count)...), count <= 60)
		}
		mixed := slices.Concat(manyBlocks("berth", count/3), manyBlocks("service", count/3), manyBlocks("team", count-2*(count/3)))
		checkSheet(t, fmt.Sprint(count, " blocks of three kinds"), sheetOf(mixed...), count <= 60)
	}
}

func TestSheetValidKinds(t *testing.T) {
	for _, kind := range sheetOtherKinds() {
		checkSheet(t, "no kind", sheetOf(blockOf(kind, "a")), false)
		for _, line := range []sheetLine{said("room", "1"), said("mark", "m"), said("", ""), said(kind, "a"), {}} {
			checkSheet(t, "no kind, with a line", sheetOf(blockOf(kind, "a", line)), false)
		}
	}
	checkSheet(t, "a block of nothing", sheetOf(sheetBlock{}), false)
	checkSheet(t, "a block without a name", sheetOf(sheetBlock{Kind: "team"}), false)
	checkSheet(t, "a block without a kind", sheetOf(sheetBlock{Name: "a"}), false)
	checkSheet(t, "no kind ahead of one", sheetOf(blockOf("aaa", "a"), blockOf("team", "a")), false)
	checkSheet(t, "no kind behind one", sheetOf(blockOf("berth", "a"), blockOf("zone", "a")), false)
}

func TestSheetValidNames(t *testing.T) {
	for _, kind := range sheetKinds() {
		for _, name := range sheetSamplesBy[3].fit {
			checkSheet(t, "a name", sheetOf(blockOf(kind, name)), true)
		}
		for _, name := range sheetSamplesBy[3].unfit {
			checkSheet(t, "no name", sheetOf(blockOf(kind, name)), false)
			checkSheet(t, "no name behind others", sheetOf(blockOf("berth", "-"), blockOf("berth", name)), false)
		}
		for c := range 256 {
			for _, name := range []string{sheetText(c), "a" + sheetText(c), sheetText(c) + "a", "a" + sheetText(c) + "b"} {
				checkSheet(t, "each byte", sheetOf(blockOf(kind, name)), sheetIsOf(3, name))
			}
		}
	}
}

// A line of each key, alone, with a word of another type at each place, and with too few and too many words.
func TestSheetValidLinesFit(t *testing.T) {
	eachSheetRule(func(kind string, rule impl.SheetRule) {
		for n := range 20 {
			words := sheetFitting(rule, n)
			checkLines(t, "a line that fits", true, kind, said(rule.Key, words...))
			checkLines(t, "too few words", false, kind, said(rule.Key, words[1:]...))
			checkLines(t, "too many words", false, kind, said(rule.Key, append(slices.Clone(words), "1")...))
			for place, of := range rule.Args {
				unfit := sheetSamplesBy[of].unfit
				other := slices.Clone(words)
				other[place] = unfit[n%len(unfit)]
				checkLines(t, "a word of another type", false, kind, said(rule.Key, other...))
			}
		}
		for _, of := range sheetKinds() {
			_, many := sheetKey(of, rule.Key)
			fits := sheetFitsAsRead(of, rule.Key, sheetFitting(rule, 1))
			checkLines(t, fmt.Sprint("a key of another kind, many: ", many), fits, of, said(rule.Key, sheetFitting(rule, 1)...))
		}
		for _, key := range []string{"", "end", kind, strings.ToUpper(rule.Key), rule.Key + " ", rule.Key[1:], rule.Key + "\n"} {
			checkLines(t, "no such key", sheetFitsAsRead(kind, key, sheetFitting(rule, 1)), kind, said(key, sheetFitting(rule, 1)...))
		}
	})
	checkLines(t, "a line of nothing", false, "team", sheetLine{})
	checkLines(t, "a key without words", false, "team", said("room"))
	checkLines(t, "a line that does not fit, behind one that does", false, "team", said("copies", "1"), said("room", "x"))
	checkLines(t, "a line that does not fit, ahead of one that does", false, "team", said("copies", "x"), said("room", "1"))
	checkLines(t, "no such key, behind one", false, "team", said("copies", "1"), said("zone", "z"))
	checkLines(t, "no such key, ahead of one", false, "team", said("zone", "z"), said("copies", "1"))
}

// Each two keys of a kind, both ways round: their order is that of the rules.
func TestSheetValidKeysInOrder(t *testing.T) {
	for _, kind := range sheetKinds() {
		rules := sheetTable()[kind]
		var all []sheetLine
		for i, one := range rules {
			all = append(all, said(one.Key, sheetFitting(one, 2)...))
			for j, two := range rules {
				if i != j {
					checkLines(t, one.Key+" ahead of "+two.Key, i < j, kind, said(one.Key, sheetFitting(one, 3)...), said(two.Key, sheetFitting(two, 3)...))
				}
			}
		}
		checkLines(t, "all keys", true, kind, all...)
		for i := range len(all) - 1 {
			other := slices.Clone(all)
			other[i], other[i+1] = other[i+1], other[i]
			checkLines(t, "two the wrong way round", false, kind, other...)
		}
		slices.Reverse(all)
		checkLines(t, "all keys the wrong way round", false, kind, all...)
		slices.SortFunc(all, func(a, b sheetLine) int { return strings.Compare(a.Key, b.Key) })
		checkLines(t, "all keys by their letters", kind == "team", kind, all...)
	}
}

// Lines of one key are ordered text by text, by their words and not by what is written for them.
func TestSheetValidWordsInOrder(t *testing.T) {
	likes := []sheetLine{
		said("like", "", "0"), said("like", "", "1"), said("like", "\x00", "0"), said("like", " ", "5"), said("like", "#", "0"), said("like", "A", "0"), said("like", "Z", "0"),
		said("like", "a", "-1"), said("like", "a", "-10"), said("like", "a", "-2"), said("like", "a", "0"), said("like", "a", "10"), said("like", "a", "9"),
		said("like", "a\x00", "0"), said("like", "a ", "0"), said("like", "a b", "1"), said("like", "a!", "0"), said("like", "aa", "-1"), said("like", "ab", "0"), said("like", "b", "-9"), said("like", "~", "0"), said("like", "\x7f", "0"), said("like", "é", "0"), said("like", "\xff", "0"),
	}
	marks := []sheetLine{said("mark", "-"), said("mark", "--"), said("mark", "-a"), said("mark", "0"), said("mark", "10"), said("mark", "2"), said("mark", "a"), said("mark", "a-"), said("mark", "a0"), said("mark", "aa"), said("mark", "b")}
	for kind, lines := range map[string][]sheetLine{"service": likes, "berth": marks} {
		for i, one := range lines {
			for j, two := range lines {
				checkLines(t, fmt.Sprintf("%q ahead of %q", one.Words, two.Words), i < j, kind, one, two)
			}
		}
		checkLines(t, "ten in order", true, kind, lines[:10]...)
		for i := range 9 {
			other := slices.Clone(lines[:10])
			other[i], other[i+1] = other[i+1], other[i]
			checkLines(t, "two of ten the wrong way round", false, kind, other...)
		}
	}
}

func TestSheetValidHowManyLines(t *testing.T) {
	eachSheetRule(func(kind string, rule impl.SheetRule) {
		if rule.Many {
			return
		}
		words, other := sheetFitting(rule, 0), sheetFitting(rule, 1)
		if slices.Equal(words, other) {
			t.Fatalf("%s %s: the same words", kind, rule.Key)
		}
		checkLines(t, "a key that is not many, twice, with the same words", false, kind, said(rule.Key, words...), said(rule.Key, words...))
		checkLines(t, "a key that is not many, twice", false, kind, said(rule.Key, words...), said(rule.Key, other...))
		checkLines(t, "a key that is not many, twice", false, kind, said(rule.Key, other...), said(rule.Key, words...))
	})
	for kind, key := range map[string]string{"berth": "mark", "service": "like"} {
		for _, count := range []int{0, 1, 2, 9, 10, 11, 12, 20, 1000} {
			lines := manyLines(key, count)
			checkLines(t, fmt.Sprint(count, " lines of a key that is many"), count <= 10, kind, lines...)
			if count == 0 {
				continue
			}
			checkLines(t, "the first line twice", false, kind, slices.Insert(slices.Clone(lines), 0, lines[0])...)
			checkLines(t, "the last line twice", false, kind, append(slices.Clone(lines), lines[count-1])...)
			checkLines(t, "the first line again at the end", false, kind, append(slices.Clone(lines), lines[0])...)
		}
		checkSheet(t, "ten in each of two blocks", sheetOf(blockOf(kind, "a", manyLines(key, 10)...), blockOf(kind, "b", manyLines(key, 10)...)), true)
		checkSheet(t, "ten and eleven", sheetOf(blockOf(kind, "a", manyLines(key, 10)...), blockOf(kind, "b", manyLines(key, 11)...)), false)
	}
	full := []sheetLine{said("team", "a"), said("image", "1"), said("want", "1"), said("down", "1"), said("over", "1"), said("needs", "1", "1"), said("where", "")}
	full = append(full, manyLines("like", 10)...)
	full = append(full, said("apart", "zone"), said("volume", "yes"), said("follow", "1", "1", "1"), said("pace", "1", "1", "1"))
	checkLines(t, "all that a service may have", true, "service", full...)
	checkLines(t, "one more", false, "service", append(slices.Clone(full), said("pace", "1", "1", "2"))...)
}

// What is far too great, or long, is answered all the same.
func TestSheetValidGreat(t *testing.T) {
	great := strings.Repeat("a", 1<<20)
	checkSheet(t, "a great kind", sheetOf(blockOf(great, "a")), false)
	checkSheet(t, "a great name", sheetOf(blockOf("team", great), blockOf("team", great+"a")), false)
	checkLines(t, "a great key", false, "team", said(great, "1"))
	checkLines(t, "a great word", false, "team", said("room", great))
	checkLines(t, "many words", false, "service", said("pace", slices.Repeat(texts{"0"}, 1<<16)...))
	lines := make([]sheetLine, 1<<16)
	for i := range lines {
		lines[i] = said("mark", "m")
	}
	if impl.SheetValid(sheetOf(blockOf("berth", "b", lines...))) || impl.SheetPrint(sheetOf(blockOf("berth", "b", lines...))) != "" {
		t.Error("many lines")
	}
	if blocks := make([]sheetBlock, 1<<20); impl.SheetValid(sheet{Blocks: blocks}) || impl.SheetPrint(sheet{Blocks: blocks}) != "" {
		t.Error("many blocks")
	}
}
