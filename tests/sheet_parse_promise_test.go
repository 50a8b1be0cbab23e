package tests

import (
	"fmt"
	"slices"
	"strings"
	"testing"

	"loop.example/wharfdesk/impl"
)

// Promises 47 and 48, over all texts of a few lines that matter: behind a line with a fault the fault is that of the text so far.
func TestSheetPromise48AllShortTexts(t *testing.T) {
	lines := texts{"", "team a", "team b", `"berth" a`, "end", "room 1", `"room" "1"`, "room x", "copies 2", "mark m", "mark l", "zip", `"`, "end x"}
	count := map[int]int{}
	var grow func(text string, last sheetFault, more int)
	grow = func(text string, last sheetFault, more int) {
		got, fault := impl.SheetParse(text)
		want, wantFault := sheetParseAsRead(text)
		if !same(got, want) || fault != wantFault {
			t.Errorf("%q is read as %q, %+v, not as %q, %+v", text, got, fault, want, wantFault)
		}
		if last.Code != 0 && last.Code != 8 && fault != last {
			t.Errorf("promise 48: %q has the fault %+v, not %+v", text, fault, last)
		}
		if printed := impl.SheetPrint(got); fault.Code == 0 {
			if again, fault := impl.SheetParse(printed); !same(again, got) || fault.Code != 0 {
				t.Errorf("promise 47: %q is printed as %q, which is read as %q, %+v", text, printed, again, fault)
			}
		}
		count[fault.Code]++
		if more == 0 {
			return
		}
		for _, line := range lines {
			grow(text+line+"\n", fault, more-1)
		}
	}
	grow("", sheetFault{}, 4)
	for _, code := range []int{0, 1, 2, 5, 6, 7, 8, 9} {
		if count[code] < 10 {
			t.Errorf("codes: %v", count)
		}
	}
}

// sheetWordOf is a word of a type.
func (d *dice) sheetWordOf(of int) string {
	if of == 4 && d.roll(2) == 0 {
		return d.sheetBytes(pick(d, 0, 1, 1, 2, 3, 10, 200))
	}
	return pick(d, sheetSamplesBy[of].fit...)
}

func (d *dice) sheetLineOf(rule impl.SheetRule) sheetLine {
	line := said(rule.Key)
	for _, of := range rule.Args {
		line.Words = append(line.Words, d.sheetWordOf(of))
	}
	return line
}

// sheetBlockOf is a block of a kind, its lines in any order.
func (d *dice) sheetBlockOf(kind, name string) sheetBlock {
	b := blockOf(kind, name)
	share := 1 + d.roll(4)
	for _, rule := range sheetTable()[kind] {
		most := 0
		if rule.Many {
			most = pick(d, 0, 1, 2, 3, 10)
		} else if d.roll(4) < share {
			most = 1
		}
		for linesOf(rule.Key, b.Lines) < most {
			line := d.sheetLineOf(rule)
			if !slices.ContainsFunc(b.Lines, func(other sheetLine) bool { return same(other, line) }) {
				b.Lines = append(b.Lines, line)
			}
		}
	}
	return b
}

// madeUpSheet is a valid one.
func (d *dice) madeUpSheet(most int) sheet {
	var blocks []sheetBlock
	for range d.roll(most + 1) {
		kind, name := pick(d, sheetKinds()...), pick(d, "a", "b", "c-1", "web", "core", "end", fmt.Sprint(d.roll(100)), d.sheetWordOf(3))
		if !slices.ContainsFunc(blocks, func(b sheetBlock) bool { return b.Kind == kind && b.Name == name }) {
			blocks = append(blocks, d.sheetBlockOf(kind, name))
		}
	}
	return sheetInOrder(blocks)
}

// greatSheet has many blocks; some are too long to be written.
func (d *dice) greatSheet() sheet {
	var blocks []sheetBlock
	for i := range 30 + d.roll(31) {
		blocks = append(blocks, d.sheetBlockOf(pick(d, sheetKinds()...), fmt.Sprint(i)))
	}
	return sheetInOrder(blocks)
}

// smallSheet has sixty blocks, most of them without lines.
func (d *dice) smallSheet() sheet {
	var blocks []sheetBlock
	for i := range 60 {
		kind := pick(d, sheetKinds()...)
		b := blockOf(kind, fmt.Sprint(i))
		if rule := pick(d, sheetTable()[kind]...); d.roll(3) == 0 {
			b.Lines = append(b.Lines, d.sheetLineOf(rule))
		}
		blocks = append(blocks, b)
	}
	return sheetInOrder(blocks)
}

// Promise 47, over sheets that are made up, with words of every byte.
func TestSheetPromise47Sheets(t *testing.T) {
	d := dice(47)
	count := map[bool]int{}
	for n := range 2500 {
		s := d.madeUpSheet(pick(&d, 0, 1, 2, 3, 5, 20))
		switch n % 20 {
		case 0:
			s = d.greatSheet()
		case 1:
			s = d.smallSheet()
		}
		checkSheet(t, "a sheet that is made up", s, true)
		count[len(s.Blocks) == 0 || impl.SheetPrint(s) != ""]++
	}
	if count[true] < 1000 || count[false] < 20 {
		t.Errorf("sheets that have a text, or not: %v", count)
	}
}

// spoilBlock changes something in a block.
func (d *dice) spoilBlock(b *sheetBlock) {
	if len(b.Lines) == 0 || d.roll(4) == 0 {
		switch d.roll(3) {
		case 0:
			b.Kind = pick(d, append(sheetKinds(), "zone", "", "Team")...)
		case 1:
			b.Name = pick(d, append(sheetSamplesBy[3].unfit, "a", "m", "z")...)
		default:
			b.Lines = append(b.Lines, d.sheetLineOf(pick(d, sheetTable()[pick(d, sheetKinds()...)]...)))
		}
		return
	}
	i, j := d.roll(len(b.Lines)), d.roll(len(b.Lines))
	switch d.roll(7) {
	case 0:
		b.Lines[i], b.Lines[j] = b.Lines[j], b.Lines[i]
	case 1:
		b.Lines = slices.Insert(b.Lines, i, b.Lines[j])
	case 2:
		b.Lines = slices.Delete(b.Lines, i, i+1)
	case 3:
		b.Lines[i].Key = pick(d, "room", "like", "mark", "zip", "", b.Lines[j].Key)
	case 4:
		words := slices.Clone(b.Lines[i].Words)
		words[d.roll(len(words))] = d.sheetWordOf(1 + d.roll(6))
		b.Lines[i].Words = words
	case 5:
		b.Lines[i].Words = append(slices.Clone(b.Lines[i].Words), pick(d, "", "1", "a"))
	default:
		b.Lines = slices.Insert(b.Lines, i, d.sheetLineOf(pick(d, sheetTable()["service"]...)))
	}
}

// spoiltSheet is one that is made up, and then changed in some places; some are valid all the same.
func (d *dice) spoiltSheet() sheet {
	s := d.madeUpSheet(5)
	for range 1 + d.roll(2) {
		if len(s.Blocks) == 0 {
			continue
		}
		i, j := d.roll(len(s.Blocks)), d.roll(len(s.Blocks))
		switch d.roll(6) {
		case 0:
			s.Blocks[i], s.Blocks[j] = s.Blocks[j], s.Blocks[i]
		case 1:
			s.Blocks = slices.Insert(s.Blocks, i, s.Blocks[j])
		default:
			d.spoilBlock(&s.Blocks[i])
		}
	}
	return s
}

// Sheets that are made up, and then spoilt in some places, are valid by the document's words, or not.
func TestSheetValidMadeUp(t *testing.T) {
	d := dice(39)
	count := map[bool]int{}
	for range 8000 {
		s := d.spoiltSheet()
		valid := sheetValidAsRead(s)
		checkSheet(t, "a sheet that is spoilt", s, valid)
		count[valid]++
	}
	if count[true] < 1000 || count[false] < 1000 {
		t.Errorf("sheets that are valid, or not: %v", count)
	}
}

// writtenAnyhow is a word in one of the ways in which it may be written.
func (d *dice) writtenAnyhow(word string) string {
	if d.roll(3) != 0 {
		return sheetWrittenAsRead(word)
	}
	inner := ""
	for i := range len(word) {
		if sheetPlainByte(int(word[i])) && d.roll(3) != 0 {
			inner += word[i : i+1]
		} else {
			inner += sheetInNumbers(word[i : i+1])
		}
	}
	return quoted(inner)
}

// lineAnyhow is a line of these words.
func (d *dice) lineAnyhow(words ...string) string {
	line := strings.Repeat(" ", d.roll(3))
	for i, word := range words {
		if i > 0 {
			line += strings.Repeat(" ", pick(d, 1, 1, 1, 2, 4))
		}
		line += d.writtenAnyhow(word)
	}
	if d.roll(6) == 0 {
		line += pick(d, " ", "#", " # x", "#\"", "  ", "# \xff\x00\r")
	}
	return line
}

// linesAnyhow are lines of a sheet, its blocks and their lines in any order.
func (d *dice) linesAnyhow(s sheet) texts {
	var lines texts
	nothing := func() {
		for d.roll(6) == 0 {
			lines = append(lines, pick(d, "", " ", "#", "# team a", "   # \""))
		}
	}
	for _, i := range d.order(len(s.Blocks)) {
		b := s.Blocks[i]
		nothing()
		lines = append(lines, d.lineAnyhow(b.Kind, b.Name))
		for _, j := range d.order(len(b.Lines)) {
			nothing()
			lines = append(lines, d.lineAnyhow(append(texts{b.Lines[j].Key}, b.Lines[j].Words...)...))
		}
		nothing()
		lines = append(lines, d.lineAnyhow("end"))
	}
	nothing()
	return lines
}

// order is the places of a list in some order.
func (d *dice) order(count int) []int {
	var list []int
	for i := range count {
		list = slices.Insert(list, d.roll(i+1), i)
	}
	return list
}

// Promise 47, over texts that are made up: however a sheet is written, it is read, and printed so that it is read again.
func TestSheetPromise47Texts(t *testing.T) {
	d := dice(4747)
	count := map[int]int{}
	for n := range 2000 {
		s := d.madeUpSheet(pick(&d, 1, 2, 3, 5, 20))
		switch n % 20 {
		case 0:
			s = d.greatSheet()
		case 1:
			s = d.smallSheet()
		}
		text := strings.Join(d.linesAnyhow(s), "\n") + pick(&d, "", "\n", "\n\n")
		read, fault := checkSheetText(t, "a text that is made up", text)
		if fault.Code == 0 && !same(read, s) || fault.Code != 0 && fault.Code != 11 {
			t.Errorf("%.600q is written as %.600q, which is read as %.600q, %+v", s, text, read, fault)
		}
		count[fault.Code]++
	}
	if count[0] < 1000 || count[11] < 10 {
		t.Errorf("codes: %v", count)
	}
}

// faultyLine is a line that is wrong in most places.
func (d *dice) faultyLine() string {
	kind := pick(d, sheetKinds()...)
	switch d.roll(8) {
	case 0:
		return pick(d, sheetFaultySamples...).line
	case 1:
		return d.sheetLine()
	case 2:
		return d.lineAnyhow(kind, pick(d, "a", "b", "web", "x", d.sheetWordOf(3), pick(d, sheetSamplesBy[3].unfit...)))
	case 3:
		return d.lineAnyhow("end")
	}
	line := d.sheetLineOf(pick(d, sheetTable()[kind]...))
	words := line.Words
	if i := d.roll(len(words)); d.roll(6) == 0 {
		words[i] = d.sheetWordOf(1 + d.roll(6))
	}
	return d.lineAnyhow(append(texts{line.Key}, words...)...)
}

var sheetFaultySamples = append(sheetFaultyOutside(), sheetFaultyInside()...)

// spoilLines changes something in the lines of a text.
func (d *dice) spoilLines(lines texts) texts {
	if len(lines) == 0 {
		return texts{d.faultyLine()}
	}
	i, j := d.roll(len(lines)), d.roll(len(lines))
	switch d.roll(8) {
	case 0:
		return slices.Delete(lines, i, i+1)
	case 1:
		return slices.Insert(lines, i, lines[j])
	case 2:
		lines[i], lines[j] = lines[j], lines[i]
	case 3:
		if line := lines[i]; line != "" {
			at := d.roll(len(line))
			lines[i] = line[:at] + pick(d, "", " ", "\"", "#", "\\", "\n", "a", "0", "-", sheetText(d.roll(256))) + line[at+1:]
		}
	case 4:
		return lines[:i]
	default:
		return slices.Insert(lines, i, d.faultyLine())
	}
	return lines
}

// Promise 48, over texts that are made up and then spoilt: whatever other text stands behind the line of a fault, it is the same.
func TestSheetPromise48Texts(t *testing.T) {
	d := dice(48)
	count := map[int]int{}
	for range 6000 {
		s := d.madeUpSheet(pick(&d, 1, 2, 3, 4))
		if d.roll(40) == 0 {
			s = d.smallSheet()
		}
		lines := d.linesAnyhow(s)
		switch d.roll(20) {
		case 0, 1:
			lines = append(lines, d.linesAnyhow(s)...)
		case 2, 3:
			lines = append(lines, d.linesAnyhow(d.madeUpSheet(2))...)
		case 4:
			lines = append(lines, make(texts, pick(&d, 300, 400, 500))...)
		case 5:
			kind, place := pick(&d, "berth", "service"), 3
			if kind == "service" {
				place = 7
			}
			rule := sheetTable()[kind][place]
			more := d.sheetLineOf(rule)
			lines = slices.Concat(lines, texts{kind + " ten"}, tenOf(rule.Key), texts{d.lineAnyhow(append(texts{more.Key}, more.Words...)...), d.faultyLine(), "end"})
		}
		for range d.roll(3) {
			lines = d.spoilLines(lines)
		}
		text := strings.Join(lines, "\n") + pick(&d, "", "\n")
		_, fault := checkSheetText(t, "a text that is spoilt", text)
		count[fault.Code]++
		if fault.Code == 0 || fault.Code == 8 || fault.Code == 11 {
			continue
		}
		upTo := strings.Join(sheetLinesAsRead(text)[:fault.Line], "\n")
		for range 3 {
			other := upTo + "\n" + strings.Join(d.linesAnyhow(d.madeUpSheet(2)), "\n")
			if d.roll(2) == 0 {
				other = upTo + "\n" + d.sheetBytes(d.roll(40))
			}
			if s, got := impl.SheetParse(other); !sheetTooLong(other) && (got != fault || len(s.Blocks) != 0) {
				t.Errorf("promise 48: %.600q has the fault %+v, but %.600q has %+v", text, fault, other, got)
			}
		}
	}
	for code := range 12 {
		if count[code] < 20 {
			t.Errorf("of code %d there are too few: %v", code, count)
		}
	}
}

// Texts of any bytes are read as the document says.
func TestSheetParseAnyBytes(t *testing.T) {
	d := dice(3939)
	for range 3000 {
		checkSheetText(t, "any bytes", d.sheetBytes(d.roll(60)))
		text := ""
		for range d.roll(12) {
			text += pick(&d, "team", "berth", "service", "end", "room", "mark", "a", "b", "1", " ", " ", " ", "\n", "\n", "\n", "\"", "#", "\\61", "\r")
		}
		checkSheetText(t, "pieces of words", text)
	}
}
