package tests

import (
	"slices"
	"sort"
	"strings"
	"testing"

	"loop.example/wharfdesk/impl"
)

type (
	sheet      = impl.Sheet
	sheetBlock = impl.SheetBlock
	sheetLine  = impl.SheetLine
	sheetFault = impl.SheetFault
)

func said(key string, words ...string) sheetLine {
	return sheetLine{Key: key, Words: words}
}

func blockOf(kind, name string, lines ...sheetLine) sheetBlock {
	return sheetBlock{Kind: kind, Name: name, Lines: lines}
}

func sheetOf(blocks ...sheetBlock) sheet {
	return sheet{Blocks: blocks}
}

// sheetTableRead is read only.
var sheetTableRead = sheetTable()

// sheetKey is the place of a key in the document's table, and whether it is many; -1 if there is none.
func sheetKey(kind, key string) (int, bool) {
	for place, rule := range sheetTableRead[kind] {
		if rule.Key == key {
			return place, rule.Many
		}
	}
	return -1, false
}

func wordsBefore(a, b texts) bool {
	for i := range a {
		if i == len(b) {
			return false
		}
		if a[i] != b[i] {
			return a[i] < b[i]
		}
	}
	return len(a) < len(b)
}

func lineBefore(kind string, a, b sheetLine) bool {
	one, _ := sheetKey(kind, a.Key)
	two, _ := sheetKey(kind, b.Key)
	return one < two || one == two && wordsBefore(a.Words, b.Words)
}

func blockBefore(a, b sheetBlock) bool {
	return a.Kind < b.Kind || a.Kind == b.Kind && a.Name < b.Name
}

// linesOf are how many lines of a key there are.
func linesOf(key string, lines []sheetLine) int {
	count := 0
	for _, line := range lines {
		if line.Key == key {
			count++
		}
	}
	return count
}

// sheetBlockAsRead says whether a block may be in a valid sheet, by the document's words.
func sheetBlockAsRead(b sheetBlock) bool {
	if !slices.Contains(sheetKinds(), b.Kind) || !sheetIsOf(3, b.Name) {
		return false
	}
	for i, line := range b.Lines {
		if !sheetFitsAsRead(b.Kind, line.Key, line.Words) || i > 0 && !lineBefore(b.Kind, b.Lines[i-1], line) {
			return false
		}
		if _, many := sheetKey(b.Kind, line.Key); linesOf(line.Key, b.Lines) > map[bool]int{false: 1, true: 10}[many] {
			return false
		}
	}
	return true
}

func sheetValidAsRead(s sheet) bool {
	for i, b := range s.Blocks {
		if !sheetBlockAsRead(b) || i > 0 && !blockBefore(s.Blocks[i-1], b) {
			return false
		}
	}
	return len(s.Blocks) <= 60
}

// sheetLinesAsRead are the lines of a text.
func sheetLinesAsRead(text string) texts {
	var lines texts
	for text != "" {
		line, behind, _ := strings.Cut(text, "\n")
		lines, text = append(lines, line), behind
	}
	return lines
}

func sheetTooLong(text string) bool {
	return len(text) > 20000 || len(sheetLinesAsRead(text)) > 400
}

// sheetReading is a code of the table of faults, and whether a line has it.
type sheetReading struct {
	code int
	has  func() bool
}

func firstReading(list ...sheetReading) int {
	for _, reading := range list {
		if reading.has() {
			return reading.code
		}
	}
	return 0
}

// sheetOutsideCode is what is wrong with a line outside of blocks, sheetInsideCode with one in this block.
func sheetOutsideCode(c cut, blocks []sheetBlock) int {
	return firstReading(
		sheetReading{1, func() bool { return c.Bad }},
		sheetReading{2, func() bool { return len(c.Words) != 2 }},
		sheetReading{3, func() bool { return !slices.Contains(sheetKinds(), c.Words[0]) }},
		sheetReading{4, func() bool { return !sheetIsOf(3, c.Words[1]) }},
		sheetReading{9, func() bool {
			return slices.ContainsFunc(blocks, func(b sheetBlock) bool { return b.Kind == c.Words[0] && b.Name == c.Words[1] })
		}},
		sheetReading{10, func() bool { return len(blocks) == 60 }},
	)
}

func sheetInsideCode(c cut, b sheetBlock) int {
	return firstReading(
		sheetReading{1, func() bool { return c.Bad }},
		sheetReading{5, func() bool { place, _ := sheetKey(b.Kind, c.Words[0]); return place < 0 }},
		sheetReading{7, func() bool { return !sheetFitsAsRead(b.Kind, c.Words[0], c.Words[1:]) }},
		sheetReading{6, func() bool {
			_, many := sheetKey(b.Kind, c.Words[0])
			return slices.ContainsFunc(b.Lines, func(line sheetLine) bool {
				return line.Key == c.Words[0] && (!many || slices.Equal(line.Words, c.Words[1:]))
			})
		}},
		sheetReading{10, func() bool { return linesOf(c.Words[0], b.Lines) == 10 }},
	)
}

// sheetParseAsRead reads a text by the document's words.
func sheetParseAsRead(text string) (sheet, sheetFault) {
	if sheetTooLong(text) {
		return sheet{}, sheetFault{Line: 0, Code: 11}
	}
	var blocks []sheetBlock
	within := false
	lines := sheetLinesAsRead(text)
	for i, line := range lines {
		c := sheetCutAsRead(line)
		code := 0
		switch {
		case !c.Bad && len(c.Words) == 0:
		case within && slices.Equal(c.Words, texts{"end"}):
			within = false
		case within:
			b := &blocks[len(blocks)-1]
			if code = sheetInsideCode(c, *b); code == 0 {
				b.Lines = append(b.Lines, said(c.Words[0], c.Words[1:]...))
			}
		default:
			if code = sheetOutsideCode(c, blocks); code == 0 {
				blocks, within = append(blocks, blockOf(c.Words[0], c.Words[1])), true
			}
		}
		if code != 0 {
			return sheet{}, sheetFault{Line: i + 1, Code: code}
		}
	}
	if within {
		return sheet{}, sheetFault{Line: len(lines) + 1, Code: 8}
	}
	return sheetInOrder(blocks), sheetFault{}
}

func sheetInOrder(blocks []sheetBlock) sheet {
	sort.SliceStable(blocks, func(i, j int) bool { return blockBefore(blocks[i], blocks[j]) })
	for _, b := range blocks {
		sort.SliceStable(b.Lines, func(i, j int) bool { return lineBefore(b.Kind, b.Lines[i], b.Lines[j]) })
	}
	return sheet{Blocks: blocks}
}

// sheetWrittenAsRead is a word as it is printed.
func sheetWrittenAsRead(word string) string {
	bare := word != ""
	var inner texts
	for i := range len(word) {
		bare = bare && sheetBareByte(int(word[i]))
		inner = append(inner, sheetWrittenByte(int(word[i])))
	}
	if bare {
		return word
	}
	return quoted(strings.Join(inner, ""))
}

// sheetTextAsRead are the lines of a sheet, whatever it is; sheetPrintAsRead is what is printed of it.
func sheetTextAsRead(s sheet) string {
	var lines texts
	for _, b := range s.Blocks {
		lines = append(lines, b.Kind+" "+b.Name+"\n")
		for _, line := range b.Lines {
			text := "  " + line.Key
			for _, word := range line.Words {
				text += " " + sheetWrittenAsRead(word)
			}
			lines = append(lines, text+"\n")
		}
		lines = append(lines, "end\n")
	}
	return strings.Join(lines, "")
}

func sheetPrintAsRead(s sheet) string {
	if !sheetValidAsRead(s) {
		return ""
	}
	if text := sheetTextAsRead(s); !sheetTooLong(text) {
		return text
	}
	return ""
}

// checkSheet says whether a sheet is valid, what is printed of it, and that it is not changed; and promise 47: what is printed is read as the sheet.
func checkSheet(t *testing.T, what string, s sheet, valid bool) {
	t.Helper()
	s = spread(s)
	before := whole(s)
	if got := impl.SheetValid(s); got != valid || got != sheetValidAsRead(s) {
		t.Errorf("%s: valid: %v: %.600q", what, got, s)
	}
	text := impl.SheetPrint(s)
	if want := sheetPrintAsRead(s); text != want {
		t.Errorf("%s: it is printed as %.600q, not as %.600q", what, text, want)
	}
	if !same(whole(s), before) {
		t.Errorf("%s: the sheet is changed", what)
	}
	if text == "" && len(s.Blocks) != 0 {
		return
	}
	read, fault := impl.SheetParse(text)
	if !same(read, s) || fault != (sheetFault{}) {
		t.Errorf("promise 47: %s: %.600q is printed as %.600q, which is read as %.600q, %+v", what, s, text, read, fault)
	}
	newMemory(t, what, read, s)
}

// checkSheetText says of any text that it is read as the document says, that what is read of it is new, and promises 47 and 48.
func checkSheetText(t *testing.T, what, text string) (sheet, sheetFault) {
	t.Helper()
	got, fault := impl.SheetParse(text)
	want, wantFault := sheetParseAsRead(text)
	if !same(got, want) || fault != wantFault {
		t.Errorf("%s: %.600q is read as %.600q, %+v, not as %.600q, %+v", what, text, got, fault, want, wantFault)
	}
	if fault.Code != 0 {
		checkBehind(t, what, text, fault)
		return got, fault
	}
	again, _ := impl.SheetParse(text)
	newMemory(t, what, got, again)
	if !impl.SheetValid(got) {
		t.Errorf("%s: %.600q is read as %.600q, which is not valid", what, text, got)
	}
	if printed := impl.SheetPrint(got); printed != "" {
		if again, fault := impl.SheetParse(printed); !same(again, got) || fault.Code != 0 {
			t.Errorf("promise 47: %s: %.600q is printed as %.600q, which is read as %.600q, %+v", what, got, printed, again, fault)
		}
	}
	return got, fault
}

// sheetBehind are texts that may stand behind a line with a fault.
var sheetBehind = texts{
	"", "\n", "\n\n\n", "end", "end\n", "end\nend", "\"", "\n\"\n", "zip", "team zz\nend\n", "end\nteam zz\nend", "end\nteam zz\nroom 1\nroom 1\nend\n", "# x", "\x00\xff\r\n\t",
	"end\nzone A\n", "end\nteam A\nend\n", strings.Repeat("\n", 100), strings.Repeat("#", 5000), "  room 5\n  copies 7\nend\n", "end x\nend\n",
}

// checkBehind is promise 48: whatever stands behind a line, its fault is the same.
func checkBehind(t *testing.T, what, text string, fault sheetFault) {
	t.Helper()
	if fault.Code == 8 || fault.Code == 11 {
		return
	}
	upTo := strings.Join(sheetLinesAsRead(text)[:fault.Line], "\n")
	for _, other := range append(texts{upTo}, sheetBehind...) {
		if other != upTo {
			other = upTo + "\n" + other
		}
		if sheetTooLong(other) {
			continue
		}
		if s, got := impl.SheetParse(other); got != fault || len(s.Blocks) != 0 {
			t.Errorf("promise 48: %s: %.600q has the fault %+v, but %.600q has %+v", what, text, fault, other, got)
		}
	}
}

// checkSheetFault says which fault a text has.
func checkSheetFault(t *testing.T, what, text string, line, code int) {
	t.Helper()
	s, fault := checkSheetText(t, what, text)
	if fault != (sheetFault{Line: line, Code: code}) {
		t.Errorf("%s: %.600q has the fault %+v, not line %d, code %d", what, text, fault, line, code)
	}
	if len(s.Blocks) != 0 {
		t.Errorf("%s: with a fault there are blocks", what)
	}
}

// checkSheetRead says which sheet a text is.
func checkSheetRead(t *testing.T, what, text string, blocks ...sheetBlock) {
	t.Helper()
	s, fault := checkSheetText(t, what, text)
	if !same(s, sheetOf(blocks...)) || fault != (sheetFault{}) {
		t.Errorf("%s: %.600q is read as %.600q, %+v, not as %.600q", what, text, s, fault, blocks)
	}
}
