package tests

import (
	"fmt"
	"strings"
	"testing"

	"loop.example/wharfdesk/impl"
)

// checkPrinted says what is printed of a valid sheet.
func checkPrinted(t *testing.T, what, want string, blocks ...sheetBlock) {
	t.Helper()
	checkSheet(t, what, sheetOf(blocks...), true)
	if got := impl.SheetPrint(sheetOf(blocks...)); got != want {
		t.Errorf("%s: it is printed as %.600q, not as %.600q", what, got, want)
	}
}

func TestSheetPrintOrdinary(t *testing.T) {
	checkPrinted(t, "nothing", "")
	checkPrinted(t, "a team without lines", "team a\nend\n", blockOf("team", "a"))
	checkPrinted(t, "a team", "team core\n  copies 10\n  room 20\nend\n", blockOf("team", "core", said("copies", "10"), said("room", "20")))
	checkPrinted(t, "a berth", "berth b-1\n  zone east\n  room 8\n  hold 0\n  mark fast\n  mark ssd\nend\n",
		blockOf("berth", "b-1", said("zone", "east"), said("room", "8"), said("hold", "0"), said("mark", "fast"), said("mark", "ssd")))
	checkPrinted(t, "a service",
		"service web\n  team core\n  image 2\n  want 3\n  down 1\n  over 0\n  needs 1 2\n  where \"zone=east & ssd\"\n  like \"\" 0\n  like \"a b\" -1\n  like ssd 5\n  apart zone\n  volume yes\n  follow 1 2 3\n  pace 4 5 6\nend\n",
		blockOf("service", "web", said("team", "core"), said("image", "2"), said("want", "3"), said("down", "1"), said("over", "0"), said("needs", "1", "2"), said("where", "zone=east & ssd"),
			said("like", "", "0"), said("like", "a b", "-1"), said("like", "ssd", "5"), said("apart", "zone"), said("volume", "yes"), said("follow", "1", "2", "3"), said("pace", "4", "5", "6")))
	checkPrinted(t, "one of each kind", "berth a\nend\nservice a\n  want 1\nend\nteam a\n  room 1\nend\nteam b\nend\n",
		blockOf("berth", "a"), blockOf("service", "a", said("want", "1")), blockOf("team", "a", said("room", "1")), blockOf("team", "b"))
	checkPrinted(t, "end as a name, and as a word", "service end\n  team end\n  where end\n  like end 1\nend\n", blockOf("service", "end", said("team", "end"), said("where", "end"), said("like", "end", "1")))
}

func TestSheetPrintQuotes(t *testing.T) {
	for word, want := range map[string]string{
		"": `""`, " ": `" "`, "a": "a", "a b": `"a b"`, "#": `"#"`, "a#": `"a#"`, `"`: `"\22"`, `\`: `"\5c"`, `\41`: `"\5c41"`, "\n": `"\0a"`, "end\n": `"end\0a"`, "a\nend": `"a\0aend"`, "\x00": `"\00"`, "\xff": `"\ff"`, "é": `"\c3\a9"`, "\r": `"\0d"`,
	} {
		checkPrinted(t, "a word in quotes", "service a\n  where "+want+"\n  like "+want+" -5\nend\n", blockOf("service", "a", said("where", word), said("like", word, "-5")))
	}
	for c := range 256 {
		for _, word := range []string{sheetText(c), "a" + sheetText(c), sheetText(c) + "a", strings.Repeat(sheetText(c), 200)} {
			written := sheetWrittenAsRead(word)
			checkPrinted(t, "each byte", "service a\n  where "+written+"\n  like "+written+" 0\nend\n", blockOf("service", "a", said("where", word), said("like", word, "0")))
		}
	}
}

// sheetsNotValid has one for each thing that a sheet may not be; most have a block that is well beside it.
func sheetsNotValid() map[string]sheet {
	room, good := said("room", "1"), blockOf("team", "z")
	return map[string]sheet{
		"two alike":                    sheetOf(good, good),
		"the wrong way round":          sheetOf(good, blockOf("team", "a")),
		"no kind":                      sheetOf(blockOf("zone", "a")),
		"no name":                      sheetOf(blockOf("team", "A")),
		"no key":                       sheetOf(blockOf("team", "a", said("zip", "1")), good),
		"not what it takes":            sheetOf(blockOf("team", "a", said("room", "x")), good),
		"too few words":                sheetOf(blockOf("team", "a", said("room")), good),
		"twice":                        sheetOf(blockOf("team", "a", room, room), good),
		"lines the wrong way round":    sheetOf(blockOf("team", "a", room, said("copies", "1")), good),
		"too many blocks":              sheetOf(manyBlocks("team", 61)...),
		"too many lines":               sheetOf(blockOf("berth", "a", manyLines("mark", 11)...)),
		"a name with a newline":        sheetOf(blockOf("team", "a\nend\nteam b")),
		"a key with a newline":         sheetOf(blockOf("team", "a", said("room 1\nend\nteam b\ncopies", "1"))),
		"a kind with a newline":        sheetOf(blockOf("team b\nend\nteam", "a")),
		"a word that is one too great": sheetOf(blockOf("service", "a", said("where", letters(201)))),
	}
}

func TestSheetPrintNotValid(t *testing.T) {
	for what, s := range sheetsNotValid() {
		checkSheet(t, what, s, false)
		if text := impl.SheetPrint(s); text != "" {
			t.Errorf("%s: %q", what, text)
		}
	}
}

// sheetOfSize is a valid sheet whose lines have this many bytes in all, written as they are printed.
func sheetOfSize(size int) sheet {
	likes := func(size, count int) []sheetLine {
		lines := manyLines("like", count)
		for i := range lines {
			least := len("  like m0000 5\n")
			lines[i].Words[0] += letters((size+i)/count - least)
		}
		return lines
	}
	s := sheetOf(blockOf("service", "a"))
	for {
		left := size - len(sheetTextAsRead(s))
		if left <= 2100 {
			s.Blocks[0].Lines = likes(left, (left+209)/210)
			return s
		}
		s.Blocks = append(s.Blocks, blockOf("service", fmt.Sprintf("b%03d", len(s.Blocks)), likes(9*210, 9)...))
	}
}

// sheetOfLines is a valid sheet with this many lines.
func sheetOfLines(count int) sheet {
	var s sheet
	for count > 0 {
		take := min(count, 12)
		if count-take == 1 {
			take--
		}
		s.Blocks = append(s.Blocks, blockOf("berth", fmt.Sprintf("b%03d", len(s.Blocks)), manyLines("mark", take-2)...))
		count -= take
	}
	return s
}

// checkOfSize says that a valid sheet has a text just if it is not too long.
func checkOfSize(t *testing.T, s sheet, bytes, lines int, printed bool) {
	t.Helper()
	text := sheetTextAsRead(s)
	if bytes >= 0 && len(text) != bytes || lines >= 0 && strings.Count(text, "\n") != lines {
		t.Fatalf("%d bytes, %d lines", len(text), strings.Count(text, "\n"))
	}
	checkSheet(t, "a sheet of a size", s, true)
	if got := impl.SheetPrint(s); (got != "") != printed || printed && got != text {
		t.Errorf("%d bytes, %d lines: %d bytes are printed", len(text), strings.Count(text, "\n"), len(got))
	}
}

func TestSheetPrintBytes(t *testing.T) {
	for size := 19980; size <= 20020; size++ {
		checkOfSize(t, sheetOfSize(size), size, -1, size <= 20000)
	}
	for _, size := range []int{1000, 10000, 25000, 40000, 60000} {
		checkOfSize(t, sheetOfSize(size), size, -1, size <= 20000)
	}
	for _, word := range []string{"", " ", "#", "\"\\", strings.Repeat("\xff", 200), strings.Repeat(" ", 200), strings.Repeat("\n", 150), "a\x00"} {
		last := blockOf("service", "z", said("where", word))
		for _, size := range []int{19999, 20000, 20001, 20002} {
			s := sheetOfSize(size - len(sheetTextAsRead(sheetOf(last))))
			s.Blocks = append(s.Blocks, last)
			checkOfSize(t, s, size, -1, size <= 20000)
		}
	}
}

func TestSheetPrintLines(t *testing.T) {
	for count := 390; count <= 410; count++ {
		checkOfSize(t, sheetOfLines(count), -1, count, count <= 400)
	}
	for _, count := range []int{2, 3, 12, 13, 14, 100, 500, 720} {
		checkOfSize(t, sheetOfLines(count), -1, count, count <= 400)
	}
	for count := 398; count <= 402; count++ {
		s := sheetOf(manyBlocks("berth", 60)...)
		for i := range count - 120 {
			b := &s.Blocks[i/10]
			b.Lines = manyLines("mark", i%10+1)
		}
		checkOfSize(t, s, -1, count, count <= 400)
	}
}

// Both bounds at once: 400 lines of 20000 bytes.
func TestSheetPrintBytesAndLines(t *testing.T) {
	for _, c := range []struct{ bytes, lines int }{{20000, 400}, {20001, 400}, {20000, 401}, {20001, 401}, {19999, 399}} {
		s := sheetOfLines(c.lines - 120)
		for i := range 10 {
			s.Blocks = append(s.Blocks, blockOf("service", fmt.Sprintf("s%d", i), manyLines("like", 10)...))
		}
		left := c.bytes - len(sheetTextAsRead(s))
		for i := range 100 {
			s.Blocks[len(s.Blocks)-10+i/10].Lines[i%10].Words[0] += letters((left + i) / 100)
		}
		checkOfSize(t, s, c.bytes, c.lines, c.bytes <= 20000 && c.lines <= 400)
	}
}

// The greatest sheets that there are: each has no text, but is valid.
func TestSheetPrintGreatest(t *testing.T) {
	blocks := manyBlocks("service", 60)
	for i := range blocks {
		blocks[i].Lines = []sheetLine{said("where", strings.Repeat("\xff", 200))}
		for _, like := range manyLines("like", 10) {
			like.Words[0] += strings.Repeat("\xff", 195)
			blocks[i].Lines = append(blocks[i].Lines, like)
		}
	}
	checkOfSize(t, sheetOf(blocks...), -1, 120+660, false)
	checkOfSize(t, sheetOf(blocks[:30]...), -1, 60+330, false)
	checkOfSize(t, sheetOf(blocks[:2]...), -1, 26, true)
}

// A text may be read as a sheet that is longer when it is printed, with two spaces ahead of each line: it is valid, and has no text.
func TestSheetPrintOfParseMayBeTooLong(t *testing.T) {
	for _, size := range []int{19990, 20000, 20001, 20010} {
		s := sheetOfSize(size)
		text := strings.ReplaceAll(sheetTextAsRead(s), "\n  ", "\n")
		read, fault := checkSheetText(t, "a text without spaces ahead of lines", text)
		if fault.Code != 0 || !same(read, s) {
			t.Fatalf("%+v", fault)
		}
		checkOfSize(t, read, size, -1, size <= 20000)
	}
}
