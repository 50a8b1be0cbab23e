package tests

import (
	"fmt"
	"slices"
	"strings"
	"testing"

	"loop.example/wharfdesk/impl"
)

func TestSheetFaultConstants(t *testing.T) {
	codes := []int{impl.SheetBadWord, impl.SheetOutside, impl.SheetNoKind, impl.SheetBadName, impl.SheetNoKey, impl.SheetTwice, impl.SheetBadArgs, impl.SheetOpen, impl.SheetAgain, impl.SheetTooMany, impl.SheetTooLong}
	if !slices.Equal(codes, []int{1, 2, 3, 4, 5, 6, 7, 8, 9, 10, 11}) {
		t.Errorf("codes: %v", codes)
	}
}

func TestSheetParseOrdinary(t *testing.T) {
	checkSheetRead(t, "nothing", "")
	checkSheetRead(t, "a block", "team a\nend\n", blockOf("team", "a"))
	checkSheetRead(t, "a block with lines", "team a\n  room 5\n  copies 7\nend\n", blockOf("team", "a", said("copies", "7"), said("room", "5")))
	checkSheetRead(t, "the document's first text", "service web\n  want 3\n  like ssd 5   # soon\nend\nteam core\nend\n",
		blockOf("service", "web", said("want", "3"), said("like", "ssd", "5")), blockOf("team", "core"))
	checkSheetRead(t, "the document's second text", "service web\n  image 2\n  want 3\nend\nservice db\n  volume yes\n  where \"zone=east & ssd\"\nend\n",
		blockOf("service", "db", said("where", "zone=east & ssd"), said("volume", "yes")), blockOf("service", "web", said("image", "2"), said("want", "3")))
	checkSheetRead(t, "no line is indented, all are", "    berth b #\nmark m\n   mark l\n            end\nteam b\nend",
		blockOf("berth", "b", said("mark", "l"), said("mark", "m")), blockOf("team", "b"))
}

// Each key of each kind, with words of all sorts, bare and in quotes.
func TestSheetParseEveryKey(t *testing.T) {
	for _, kind := range sheetKinds() {
		var all []sheetLine
		for _, rule := range sheetTable()[kind] {
			all = append(all, said(rule.Key, sheetFitting(rule, 4)...))
			for n := range 30 {
				words := sheetFitting(rule, n)
				text := kind + " x\n" + rule.Key + " " + sheetJoined(words, "  ") + "\nend"
				checkSheetRead(t, rule.Key, text, blockOf(kind, "x", said(rule.Key, words...)))
				for place, of := range rule.Args {
					unfit := sheetSamplesBy[of].unfit
					words[place] = unfit[n%len(unfit)]
					code := 7
					if len(words[place]) > 200 {
						code = 1
					}
					checkSheetFault(t, rule.Key, kind+" x\n"+rule.Key+" "+sheetJoined(words, " ")+"\nend", 2, code)
					words = sheetFitting(rule, n)
				}
			}
		}
		checkSheetRead(t, "all keys", sheetTextAsRead(sheetOf(blockOf(kind, "x", all...))), blockOf(kind, "x", all...))
	}
}

// sheetFaulty is a line with a fault, and the lines ahead of it that it needs.
type sheetFaulty struct {
	code  int
	line  string
	ahead texts
}

func blockLines(kind string, count int) texts {
	return sheetLinesAsRead(sheetTextAsRead(sheetOf(manyBlocks(kind, count)...)))
}

func tenOf(key string) texts {
	var lines texts
	for _, line := range manyLines(key, 10) {
		lines = append(lines, key+" "+strings.Join(line.Words, " "))
	}
	return lines
}

// sheetFaultyOutside has lines for each code outside of blocks.
func sheetFaultyOutside() []sheetFaulty {
	var list []sheetFaulty
	add := func(code int, ahead texts, lines ...string) {
		for _, line := range lines {
			list = append(list, sheetFaulty{code, line, ahead})
		}
	}
	add(1, nil, `"`, `team "a`, "team\ta", `team a\`, "team a\r", "é", "1 2 3 4 5 6 7 8 9", "team "+letters(201), `team ""a`, `team a "b`, "\x00", `zone A "`)
	add(2, nil, "team", "end", "team a b", `"end"`, `""`, "1 2 3 4 5 6 7 8", "zone", "end end end", "a", "room 1 2", `zone A b`, `"team a"`)
	add(3, nil, "zone a", "Team a", `"" a`, "end x", "room 1", `"team " a`, "teams a", "tea m", `"\00team" a`, "zone A", `"" ""`, "end end", "a team", "core team")
	add(4, nil, "team A", `team ""`, "team "+letters(21), `berth "a b"`, "service a_b", "team a.", `team "\ff"`, `service "\c3\a9"`, "berth "+letters(200), "team =")
	add(9, texts{"team a", "end"}, "team a", `"team" a`, `"\74eam"   "a" # again`)
	add(9, texts{"team a", "room 1", "end", "berth a", "end", "team b", "end"}, "team a", "berth a", "team b")
	add(9, texts{"service b", "team a", "end", "service a", "end"}, "service b", "service a")
	add(10, blockLines("team", 60), "team x", "service x", "berth x", "team n00000", `berth "n0000"`)
	add(9, blockLines("team", 60), "team n0000", "team n0059", `"team" "n0030"`)
	add(4, blockLines("berth", 60), "team A", `berth ""`)
	add(3, blockLines("berth", 60), "zone a", "end x", "zone A")
	add(2, blockLines("service", 60), "end", "team a b", "team")
	add(1, blockLines("service", 60), `team "x`, `"`)
	return list
}

// sheetFaultyInside has lines for each code in blocks; the first line ahead begins the block.
func sheetFaultyInside() []sheetFaulty {
	var list []sheetFaulty
	add := func(code int, ahead texts, lines ...string) {
		for _, line := range lines {
			list = append(list, sheetFaulty{code, line, ahead})
		}
	}
	team, berth, service := texts{"team a"}, texts{"berth a"}, texts{"service a"}
	add(1, team, `"`, `end "`, `"end`, `room 1 "`, "room 1\t", "end\r", "1 2 3 4 5 6 7 8 9", "zip\x00", `zip "`, "room "+letters(201))
	add(5, team, "zip", "zip x", "end x", "end end", "zone z", "End", "END", "ends", `""`, `"" x`, `"end "`, `" end"`, "team b", "team a", "berth b", "service b", "Room 1", "rooms 1", "roo m 1", "zip 1 2 3 4 5 6 7", "mark m", `"room 1"`)
	add(5, berth, "copies 1", "berth b", "team a", "want 1", "like a 1", "service a")
	add(5, service, "room 1", "service b", "berth b", "zone z", "mark m", "copies 1")
	add(7, team, "room", "room x", "room 1 2", "copies -1", "room 01", "room 1000001", `room ""`, "room +1", "copies 1 2 3 4 5 6 7", "copies # 1", `copies "1 2"`)
	add(7, berth, "zone A", "zone", `mark ""`, "mark "+letters(21), "mark a b", "mark", "hold x")
	add(7, service, "team A", "team", "team a b", "like a", "like 1", "like a b", "like a -0", "needs 1", "needs 1 2 3", "pace 0 0", "pace 0 0 0 0", "apart host", "volume maybe", "where", "where a b", "follow 1 2 -3")
	add(6, append(team, "room 1"), "room 1", "room 2", `"room" "1"`, "  room   1  # again")
	add(6, append(team, "copies 1", "room 2"), "copies 1", "copies 0", "room 2", "room 3")
	add(6, append(berth, "mark m", "mark n"), "mark m", "mark n", `"mark" m`, `mark "m"`, `mark "\6d"`, `"\6dark" "\6e"`)
	add(6, append(service, "like a 1", `like "a b" 2`, `like "" -3`), "like a 1", `like "a" "1"`, `like "\61" 1`, `like "a b" 2`, `like "a\20b" 2`, `like "" -3`, `like "" "\2d3"`)
	add(6, append(service, "team b", "where a", "needs 1 1"), "team b", "team c", "where a", `where ""`, "needs 1 1", "needs 2 2")
	add(10, append(berth, tenOf("mark")...), "mark m", "mark a", "mark z", "mark m00000")
	add(10, append(service, tenOf("like")...), `like "" 0`, "like m0000 6", "like m0009 -5", "like z 5")
	add(6, append(berth, tenOf("mark")...), "mark m0000", "mark m0009", `mark "m0005"`)
	add(6, append(service, tenOf("like")...), "like m0000 5", "like m0009 5", `like "m0005" "5"`)
	add(7, append(berth, tenOf("mark")...), "mark A", "mark", "mark m0000 m0000")
	add(7, append(service, tenOf("like")...), "like m0000", "like m0000 x", "like m0000 05")
	add(7, append(team, "room 1"), "room", "room x", "room 01", "room 1 1")
	add(5, append(berth, tenOf("mark")...), "marks m0000", "mar k")
	add(1, append(berth, tenOf("mark")...), `mark m0000 "`, `mark "m`)
	return list
}

// sheetAhead are lines that are well outside of blocks, none of which are blocks that a fault above needs.
var sheetAhead = []texts{
	nil, {""}, {"   ", "# a", "", "#"}, {"berth q", "end"}, {"", "service q", " want 1", "", "like a 1", "end # x", "  ", "berth q", "mark m", `"end"`, ""},
}

// sheetBetween are lines that count for nothing.
var sheetBetween = []texts{nil, {""}, {"  ", "# end", "#\"", "", "   #end"}}

func hasBlocks(lines texts) bool {
	return slices.ContainsFunc(lines, func(line string) bool { return line != "" && line[0] >= 'a' })
}

// Each code at the first line, behind others, and within blocks.
func TestSheetParseFaults(t *testing.T) {
	seen := map[int]bool{}
	check := func(f sheetFaulty) {
		for _, ahead := range sheetAhead {
			if hasBlocks(ahead) && len(f.ahead) == 120 {
				continue
			}
			for _, between := range sheetBetween {
				lines := slices.Concat(ahead, f.ahead, between, texts{f.line})
				checkSheetFault(t, f.line, strings.Join(lines, "\n"), len(lines), f.code)
				checkSheetFault(t, f.line, strings.Join(lines, "\n")+"\nend\n", len(lines), f.code)
			}
		}
		seen[f.code] = true
	}
	for _, f := range sheetFaultyOutside() {
		check(f)
	}
	for _, f := range sheetFaultyInside() {
		check(f)
	}
	if len(seen) != 9 {
		t.Errorf("codes: %v", seen)
	}
}

// Of two lines that have a fault it is the first one's that is told.
func TestSheetParseFirstOfTwo(t *testing.T) {
	for _, list := range [][]sheetFaulty{sheetFaultyOutside(), sheetFaultyInside()} {
		for _, one := range list {
			for _, two := range list {
				lines := slices.Concat(one.ahead, texts{one.line, "", two.line, "end", two.line})
				if s, fault := impl.SheetParse(strings.Join(lines, "\n")); fault != (sheetFault{Line: len(one.ahead) + 1, Code: one.code}) || len(s.Blocks) != 0 {
					t.Errorf("%q ahead of %q: %+v", one.line, two.line, fault)
				}
			}
		}
	}
}

// A line that has several faults is told of by the one that stands first in the table.
func TestSheetParseOrderOfCodes(t *testing.T) {
	sixty := strings.Join(blockLines("team", 60), "\n") + "\n"
	for _, c := range []struct {
		text string
		line int
		code int
	}{
		{`zone A b "`, 1, 1}, {"zone A b", 1, 2}, {"zone A", 1, 3}, {"team A", 1, 4}, {sixty + "team A", 121, 4}, {sixty + "zone a", 121, 3}, {sixty + "zone", 121, 2}, {sixty + `team n0000 "`, 121, 1}, {sixty + "team n0000", 121, 9}, {sixty + "team n", 121, 10},
		{"team a\nzip \"", 2, 1}, {"team a\nroom 1\nroom 1 \"", 3, 1}, {"team a\nzip x y z", 2, 5}, {"team a\nroom 1\nroom", 3, 7}, {"team a\nroom 1\nroom x", 3, 7}, {"team a\nroom 1\nroom 1", 3, 6},
		{"berth a\n" + strings.Join(tenOf("mark"), "\n") + "\nmark \"", 12, 1}, {"berth a\n" + strings.Join(tenOf("mark"), "\n") + "\nmork m0000", 12, 5}, {"berth a\n" + strings.Join(tenOf("mark"), "\n") + "\nmark m0000 x", 12, 7}, {"berth a\n" + strings.Join(tenOf("mark"), "\n") + "\nmark m0000", 12, 6}, {"berth a\n" + strings.Join(tenOf("mark"), "\n") + "\nmark m", 12, 10},
		{sixty[:len(sixty)-len("end\n")] + "room 1\nteam x\n", 121, 5}, {sixty[:len(sixty)-len("end\n")] + "room 1\nroom 2\n", 121, 6},
	} {
		checkSheetFault(t, "several faults", c.text, c.line, c.code)
	}
}

func TestSheetParseNewlines(t *testing.T) {
	for many := range 5 {
		newlines := strings.Repeat("\n", many)
		checkSheetRead(t, "newlines alone", newlines)
		checkSheetRead(t, "newlines behind", "team a\nend"+newlines, blockOf("team", "a"))
		checkSheetRead(t, "newlines ahead", newlines+"team a\nend", blockOf("team", "a"))
		checkSheetRead(t, "newlines between", "team a\n"+newlines+"room 1\n"+newlines+"end", blockOf("team", "a", said("room", "1")))
		checkSheetFault(t, "newlines behind a fault", "team\n"+newlines, 1, 2)
		checkSheetFault(t, "newlines ahead of a fault", newlines+"team", many+1, 2)
		checkSheetFault(t, "newlines ahead of a fault in a block", "team a\n"+newlines+"zip", many+2, 5)
	}
	for _, nothing := range []string{"", " ", "     ", "#", "# team a", "  # \"", "#\x00\r\xff", " #end"} {
		checkSheetRead(t, "a line that counts for nothing", nothing)
		checkSheetRead(t, "a line that counts for nothing, with a newline", nothing+"\n")
		checkSheetRead(t, "a line that counts for nothing, twice", nothing+"\n"+nothing)
		checkSheetFault(t, "a line that counts for nothing ahead of a fault", nothing+"\n"+nothing+"\nend", 3, 2)
		checkSheetFault(t, "a line that counts for nothing in an open block", "team a\n"+nothing+"\n", 3, 8)
	}
}

// Nothing but a newline cuts lines.
func TestSheetParseOtherBytes(t *testing.T) {
	for c := range 256 {
		text := sheetText(c)
		checkSheetText(t, "a byte between lines", "team a"+text+"end")
		checkSheetText(t, "a byte behind a line", "team a"+text+"\nend"+text+"\n")
		checkSheetText(t, "a byte ahead of a line", text+"team a\n"+text+"end\n")
		checkSheetText(t, "a byte alone", text)
		checkSheetText(t, "a byte in a block", "team a\n"+text+"\nend")
		checkSheetText(t, "a byte as a word", "service a\nwhere "+text+"\nend")
		checkSheetText(t, "a byte in quotes", "service a\nwhere "+quoted(text)+"\nend")
		if c != '\n' {
			checkSheetRead(t, "a byte in a comment", "team a#"+text+"\nend # "+text+"\n#"+text, blockOf("team", "a"))
		}
		checkSheetRead(t, "a byte as a number", fmt.Sprintf("service a\nwhere \"\\%02x\"\nend", c), blockOf("service", "a", said("where", text)))
	}
	checkSheetFault(t, "a carriage return", "team a\r\nend\r\n", 1, 1)
	checkSheetFault(t, "a carriage return behind the end", "team a\nend\r\n", 2, 1)
	checkSheetFault(t, "a carriage return alone", "team a\rend", 1, 1)
	checkSheetFault(t, "a carriage return on an empty line", "\r\n", 1, 1)
	checkSheetFault(t, "quotes over two lines", "service a\nwhere \"a\nb\"\nend", 2, 1)
	checkSheetFault(t, "a backslash ahead of a newline", "team \\\na\nend", 1, 1)
	checkSheetFault(t, "another end of a line", "team a\u2028end", 1, 1)
}

func TestSheetParseEnd(t *testing.T) {
	for _, end := range []string{"end", " end", "end ", "   end   ", "end#", "end #", "end # end", "end#x", `"end"`, ` "end" `, `"end"#`, `"\65nd"`, `"\65\6e\64"`, `"en\64" # x`} {
		checkSheetRead(t, "an end", "team a\nroom 1\n"+end, blockOf("team", "a", said("room", "1")))
		checkSheetRead(t, "an end with a block behind it", "team a\n"+end+"\nteam b\n"+end+"\n", blockOf("team", "a"), blockOf("team", "b"))
		checkSheetFault(t, "an end outside", end, 1, 2)
		checkSheetFault(t, "an end behind a block", "team a\n"+end+"\n"+end, 3, 2)
	}
	for _, none := range []string{"end x", `end ""`, "end end", `"end" "x"`, "End", "END", "en", "ends", "end-", `"end "`, `" end"`, `"end\00"`, "end 1 2 3", "end team"} {
		checkSheetFault(t, "no end", "team a\n"+none+"\nend", 2, 5)
	}
	checkSheetFault(t, "no end", "team a\nend\"\nend", 2, 1)
	checkSheetRead(t, "end as a name, and as a word", "team end\nend\nservice end\nteam end\nwhere end\nlike end 1\nend\n",
		blockOf("service", "end", said("team", "end"), said("where", "end"), said("like", "end", "1")), blockOf("team", "end"))
}

func TestSheetParseBlockInBlock(t *testing.T) {
	for _, outer := range sheetKinds() {
		for _, inner := range sheetKinds() {
			text := outer + " a\n" + inner + " b\nend\n"
			if outer == "service" && inner == "team" {
				checkSheetRead(t, "a service's team", text, blockOf("service", "a", said("team", "b")))
				checkSheetFault(t, "a service's team twice", "service a\nteam b\nteam c\nend", 3, 6)
				checkSheetFault(t, "a service's team that is no name", "service a\nteam B\nend", 2, 7)
				checkSheetFault(t, "a block in a block ended twice", text+"end\n", 4, 2)
			} else {
				checkSheetFault(t, "a block in a block", text, 2, 5)
				checkSheetFault(t, "a block in a block, ended twice", text+"end\n", 2, 5)
				checkSheetFault(t, "a block in itself", outer+" a\n"+outer+" a\nend\nend", 2, 5)
			}
		}
	}
}

func TestSheetParseTwice(t *testing.T) {
	checkSheetRead(t, "one name, several kinds", "team a\nend\nberth a\nend\nservice a\nend", blockOf("berth", "a"), blockOf("service", "a"), blockOf("team", "a"))
	checkSheetRead(t, "one line, several blocks", "team a\nroom 1\nend\nteam b\nroom 1\nend\nberth a\nroom 1\nend", blockOf("berth", "a", said("room", "1")), blockOf("team", "a", said("room", "1")), blockOf("team", "b", said("room", "1")))
	checkSheetRead(t, "a key that is many, with other words", "service a\nlike a 1\nlike a 2\nlike b 1\nlike A 1\nlike \"a \" 1\nend",
		blockOf("service", "a", said("like", "A", "1"), said("like", "a", "1"), said("like", "a", "2"), said("like", "a ", "1"), said("like", "b", "1")))
	checkSheetFault(t, "a block again", "team a\nend\nteam a\nend", 3, 9)
	checkSheetFault(t, "a block again with other lines", "team a\nroom 1\nend\nteam a\ncopies 1\nend", 4, 9)
	checkSheetFault(t, "a block again in quotes", "team a\nend\n\"team\" \"a\"\nend", 3, 9)
	checkSheetFault(t, "a block again behind others", "team a\nend\nteam b\nend\nberth a\nend\n\nteam a\nend", 8, 9)
	checkSheetFault(t, "a line again in other words", "berth a\nmark \"m\"\nmark l\n \"mark\"  m#\nend", 4, 6)
	eachSheetRule(func(kind string, rule impl.SheetRule) {
		for n := range 8 {
			one, two := sheetFitting(rule, n), sheetFitting(rule, n+1)
			begin := kind + " x\n" + rule.Key + " " + sheetJoined(one, " ") + "\n"
			inQuotes := quoted(rule.Key)
			for _, word := range one {
				inQuotes += " " + quoted(sheetInNumbers(word))
			}
			checkSheetFault(t, "a line again", begin+begin[len(kind+" x\n"):]+"end", 3, 6)
			checkSheetFault(t, "a line again in quotes", begin+inQuotes+"\nend", 3, 6)
			other := begin + rule.Key + " " + sheetJoined(two, " ") + "\nend"
			if rule.Many {
				checkSheetRead(t, "a key again", other, sheetInOrder([]sheetBlock{blockOf(kind, "x", said(rule.Key, one...), said(rule.Key, two...))}).Blocks...)
			} else {
				checkSheetFault(t, "a key again", other, 3, 6)
			}
		}
	})
}

// sheetInNumbers is a word of which each byte is written by its number.
func sheetInNumbers(word string) string {
	return strings.Repeat(`\`, min(len(word), 1)) + strings.Join(strings.Split(fmt.Sprintf("% x", word), " "), `\`)
}

func TestSheetParseHowManyBlocks(t *testing.T) {
	for _, kind := range sheetKinds() {
		sixty := manyBlocks(kind, 60)
		lines := blockLines(kind, 60)
		checkSheetRead(t, "sixty blocks", strings.Join(lines, "\n"), sixty...)
		slices.Reverse(sixty)
		backwards := sheetTextAsRead(sheetOf(sixty...))
		slices.Reverse(sixty)
		checkSheetRead(t, "sixty blocks backwards", backwards, sixty...)
		for _, other := range sheetKinds() {
			for _, name := range []string{"a", "n", "n00005", "z"} {
				checkSheetFault(t, "one more", backwards+"\n"+other+" "+name+"\nend", 122, 10)
			}
		}
		checkSheetFault(t, "one that was there already", backwards+kind+" n0007", 121, 9)
		checkSheetRead(t, "nothing more", backwards+"\n# "+kind+" x\n", sixty...)
		checkSheetFault(t, "sixty, and the last one open", strings.TrimSuffix(backwards, "end\n"), 120, 8)
		checkSheetRead(t, "fifty-nine", sheetTextAsRead(sheetOf(sixty[1:]...)), sixty[1:]...)
	}
	mixed := slices.Concat(manyBlocks("berth", 20), manyBlocks("service", 20), manyBlocks("team", 20))
	text := sheetTextAsRead(sheetOf(mixed...))
	checkSheetRead(t, "sixty blocks of three kinds", text, mixed...)
	checkSheetFault(t, "one more of three kinds", text+"service x", 121, 10)
}

func TestSheetParseHowManyLines(t *testing.T) {
	for kind, key := range map[string]string{"berth": "mark", "service": "like"} {
		ten := tenOf(key)
		begin := kind + " x\n"
		more := map[string]string{"mark": " l", "like": " l 1"}[key]
		for _, order := range [][]int{{0, 1, 2, 3, 4, 5, 6, 7, 8, 9}, {9, 8, 7, 6, 5, 4, 3, 2, 1, 0}, {5, 0, 9, 1, 8, 3, 2, 7, 4, 6}} {
			text := begin
			for _, i := range order {
				text += ten[i] + "\n"
			}
			checkSheetRead(t, "ten lines", text+"end", blockOf(kind, "x", manyLines(key, 10)...))
			checkSheetFault(t, "one more", text+key+more+"\nend", 12, 10)
			checkSheetFault(t, "one more behind empty lines", text+"\n\n"+key+more+"\nend", 14, 10)
			checkSheetFault(t, "one that was there already", text+ten[4]+"\nend", 12, 6)
			checkSheetFault(t, "one that does not fit", text+key+more+" x\nend", 12, 7)
			checkSheetFault(t, "ten lines, not ended", text, 12, 8)
			checkSheetFault(t, "one more in a second block", text+"end\n"+strings.Replace(text, "x", "y", 1)+key+more+"\nend", 24, 10)
			checkSheetRead(t, "ten in each of two blocks", text+"end\n"+strings.Replace(text, " x", " y", 1)+"end", blockOf(kind, "x", manyLines(key, 10)...), blockOf(kind, "y", manyLines(key, 10)...))
		}
		checkSheetRead(t, "nine lines", begin+strings.Join(ten[1:], "\n")+"\nend", blockOf(kind, "x", manyLines(key, 10)[1:]...))
	}
	text := "service x\npace 1 2 3\n" + strings.Join(tenOf("like"), "\n") + "\nteam t\nwant 5\nend"
	checkSheetRead(t, "ten lines among others", text, blockOf("service", "x", slices.Concat([]sheetLine{said("team", "t"), said("want", "5")}, manyLines("like", 10), []sheetLine{said("pace", "1", "2", "3")})...))
}

// Blocks and lines in each order are one sheet.
func TestSheetParseAnyOrder(t *testing.T) {
	blocks := []sheetBlock{
		blockOf("berth", "a", said("zone", "z"), said("room", "1"), said("hold", "2"), said("mark", "a"), said("mark", "b")),
		blockOf("berth", "b"),
		blockOf("service", "a", said("team", "x"), said("like", "a", "1"), said("like", "a", "10"), said("like", "a", "2"), said("apart", "none")),
		blockOf("team", "a", said("copies", "1"), said("room", "1")),
		blockOf("team", "b"),
	}
	for _, order := range permutations(5) {
		turned, lines := sheet{}, sheet{}
		for _, place := range order {
			turned.Blocks = append(turned.Blocks, blocks[place-1])
		}
		checkSheetRead(t, "blocks in any order", sheetTextAsRead(turned), blocks...)
		for i, b := range turned.Blocks {
			b.Lines = nil
			if len(turned.Blocks[i].Lines) == 5 {
				for _, place := range order {
					b.Lines = append(b.Lines, turned.Blocks[i].Lines[place-1])
				}
			} else {
				b.Lines = append(b.Lines, turned.Blocks[i].Lines...)
				slices.Reverse(b.Lines)
			}
			lines.Blocks = append(lines.Blocks, b)
		}
		checkSheetRead(t, "lines in any order", sheetTextAsRead(lines), blocks...)
	}
}

func TestSheetParseOpen(t *testing.T) {
	for ahead := range 4 {
		begin := strings.Repeat("\n", ahead)
		for many := range 4 {
			newlines := strings.Repeat("\n", many)
			more := max(many-1, 0)
			checkSheetFault(t, "a block alone", begin+"team a"+newlines, ahead+2+more, 8)
			checkSheetFault(t, "a block with a line", begin+"team a\nroom 1"+newlines, ahead+3+more, 8)
			checkSheetFault(t, "a block behind another", begin+"team a\nend\nteam b"+newlines, ahead+4+more, 8)
			checkSheetFault(t, "a comment behind", begin+"team a\n# end"+newlines, ahead+3+more, 8)
			checkSheetFault(t, "a space behind", begin+"team a\n "+newlines, ahead+3+more, 8)
			checkSheetFault(t, "a fault is ahead of it", begin+"team a\nzip\n"+newlines, ahead+2, 5)
		}
	}
	checkSheetFault(t, "400 lines", "team a"+strings.Repeat("\n", 400), 401, 8)
	checkSheetFault(t, "400 lines without a newline at the end", "team a"+strings.Repeat("\n", 399)+" ", 401, 8)
	checkSheetFault(t, "400 lines with one more", "team a"+strings.Repeat("\n", 400)+" ", 0, 11)
}

// sized is a text with a comment behind it, of this size in all.
func sized(text string, size int) string {
	return text + "#" + strings.Repeat("x", size-len(text)-1)
}

func TestSheetParseTooManyBytes(t *testing.T) {
	for _, c := range []struct {
		text string
		line int
		code int
	}{
		{"", 0, 0}, {"team a\nend\n", 0, 0}, {"team a\nend ", 0, 0}, {"team a\n", 3, 8}, {"\"\n", 1, 1}, {"team\n", 1, 2}, {"zone a\n", 1, 3}, {"team A\n", 1, 4}, {"team a\nend\nteam a\n", 3, 9}, {"team a\nzip\n", 2, 5}, {"team a\nroom x\n", 2, 7}, {"team a\nroom 1\nroom 1\n", 3, 6},
		{strings.Join(blockLines("team", 60), "\n") + "\nteam x\n", 121, 10}, {"berth a\n" + strings.Join(tenOf("mark"), "\n") + "\nmark x\n", 12, 10},
	} {
		for _, size := range []int{19999, 20000} {
			_, fault := checkSheetText(t, "a text of a size", sized(c.text, size))
			if fault != (sheetFault{Line: c.line, Code: c.code}) {
				t.Errorf("%.100q with %d bytes: %+v", c.text, size, fault)
			}
		}
		for _, size := range []int{20001, 20002, 40000, 1 << 20} {
			checkSheetFault(t, "a text that is too great", sized(c.text, size), 0, 11)
		}
	}
	for _, text := range []string{"\n", " ", "#", "\"", "a", "\x00", "team a\nend\n", "\xff"} {
		for _, size := range []int{20001, 20002, 1 << 22} {
			checkSheetFault(t, "one thing many times", strings.Repeat(text, size)[:size], 0, 11)
		}
	}
	checkSheetRead(t, "spaces", strings.Repeat(" ", 20000))
	checkSheetRead(t, "a comment", strings.Repeat("#", 20000))
	checkSheetFault(t, "quotes", strings.Repeat("\"", 20000), 1, 1)
	checkSheetFault(t, "a newline as the byte that is one too many", sized("", 20000)+"\n", 0, 11)
	checkSheetRead(t, "a newline as the last byte", sized("", 19999)+"\n")
}

func TestSheetParseTooManyLines(t *testing.T) {
	for _, c := range []struct {
		text string
		line int
		code int
	}{
		{"", 0, 0}, {"team a\nend\n", 0, 0}, {"team a\n", 401, 8}, {"\"\n", 1, 1}, {"team\n", 1, 2}, {"zone a\n", 1, 3}, {"team A\n", 1, 4}, {"team a\nend\nteam a\n", 3, 9}, {"team a\nzip\n", 2, 5}, {"team a\nroom x\n", 2, 7}, {"team a\nroom 1\nroom 1\n", 3, 6},
		{strings.Join(blockLines("team", 60), "\n") + "\nteam x\n", 121, 10},
	} {
		lines := strings.Count(c.text, "\n")
		for _, end := range []string{"\n", " ", "#", "#\n", "# x"} {
			full := c.text + strings.Repeat("\n", 399-lines) + end
			_, fault := checkSheetText(t, "400 lines", full)
			if fault != (sheetFault{Line: c.line, Code: c.code}) {
				t.Errorf("%.100q with 400 lines: %+v", c.text, fault)
			}
			checkSheetFault(t, "401 lines", "\n"+full, 0, 11)
			checkSheetFault(t, "800 lines", strings.Repeat("\n", 400)+full, 0, 11)
		}
	}
	checkSheetFault(t, "a fault at line 400", strings.Repeat("\n", 399)+"end", 400, 2)
	checkSheetFault(t, "a fault at line 400, with a newline", strings.Repeat("\n", 399)+"end\n", 400, 2)
	checkSheetFault(t, "a fault at line 401", strings.Repeat("\n", 400)+"end", 0, 11)
	checkSheetFault(t, "a space at line 401", strings.Repeat("\n", 400)+" ", 0, 11)
	checkSheetFault(t, "lines and bytes", strings.Repeat("zone\n", 20000), 0, 11)
	checkSheetFault(t, "401 lines of one byte each", strings.Repeat("\"\n", 401), 0, 11)
	blocks := slices.Concat(manyBlocks("berth", 20), manyBlocks("service", 20), manyBlocks("team", 20))
	for i := range blocks {
		if blocks[i].Kind == "berth" {
			blocks[i].Lines = manyLines("mark", 10)
		} else if blocks[i].Kind == "team" {
			blocks[i].Lines = []sheetLine{said("copies", "1"), said("room", "2")}
		} else {
			blocks[i].Lines = []sheetLine{said("want", "3"), said("over", "4")}
		}
	}
	full := sheetTextAsRead(sheetOf(blocks...))
	checkSheetRead(t, "400 lines that all count", full, blocks...)
	checkSheetFault(t, "one more", full+" ", 0, 11)
}
