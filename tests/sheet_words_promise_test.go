package tests

import (
	"encoding/hex"
	"regexp"
	"strings"
	"testing"

	"loop.example/wharfdesk/impl"
)

// The form of a line by the document's words: its words are what stands in the brackets.
const sheetWordForm = `(?:[!$-\[\]-~]+|"(?:[ !#-\[\]-~]|\\[0-9a-f][0-9a-f])*")`

var (
	sheetLineForm = regexp.MustCompile(`\A *((?:` + sheetWordForm + `(?: +` + sheetWordForm + `)*)?) *(?:#(?s:.*))?\z`)
	sheetOneWord  = regexp.MustCompile(sheetWordForm)
	sheetEscape   = regexp.MustCompile(`\\..`)
)

// sheetStandsFor is what a word that is written so stands for.
func sheetStandsFor(written string) string {
	if written[0] != '"' {
		return written
	}
	return sheetEscape.ReplaceAllStringFunc(written[1:len(written)-1], func(number string) string {
		value, err := hex.DecodeString(number[1:])
		if err != nil {
			panic(err)
		}
		return string(value)
	})
}

// sheetCutAsRead is the words of a line by its form.
func sheetCutAsRead(line string) cut {
	parts := sheetLineForm.FindStringSubmatch(line)
	if parts == nil {
		return cut{Bad: true}
	}
	var words texts
	for _, written := range sheetOneWord.FindAllString(parts[1], -1) {
		words = append(words, sheetStandsFor(written))
	}
	for _, word := range words {
		if len(word) > 200 {
			return cut{Bad: true}
		}
	}
	if len(words) > 8 {
		return cut{Bad: true}
	}
	return cut{Words: words}
}

func sheetJoined(words texts, between string) string {
	var written texts
	for _, word := range words {
		written = append(written, impl.SheetWord(word))
	}
	return strings.Join(written, between)
}

// checkPromise46 says of any line what it is cut into, and that its words, written and cut again, are the same.
func checkPromise46(t *testing.T, line string) cut {
	t.Helper()
	got := impl.SheetWords(line)
	if want := sheetCutAsRead(line); !same(got, want) {
		t.Errorf("%q is cut into %q, bad: %v, not into %q, bad: %v", line, got.Words, got.Bad, want.Words, want.Bad)
	}
	if got.Bad {
		return got
	}
	for _, again := range []string{sheetJoined(got.Words, " "), "  " + sheetJoined(got.Words, "   ") + " # " + line, sheetJoined(got.Words, " ") + "#"} {
		if twice := impl.SheetWords(again); !same(twice, got) {
			t.Errorf("promise 46: %q has %q, but written as %q it has %q, bad: %v", line, got.Words, again, twice.Words, twice.Bad)
		}
	}
	return got
}

// Promise 46, over all lines of a few bytes that matter.
func TestSheetPromise46AllShortLines(t *testing.T) {
	bytes := " a4f\"#\\G\t\xff"
	count := map[bool]int{}
	var grow func(line string, more int)
	grow = func(line string, more int) {
		count[checkPromise46(t, line).Bad]++
		for i := range len(bytes) {
			if more > 0 {
				grow(line+bytes[i:i+1], more-1)
			}
		}
	}
	grow("", 5)
	if count[true] < 10000 || count[false] < 10000 {
		t.Errorf("lines that are bad, or not: %v", count)
	}
}

// sheetLine is a line of words and of what is almost one.
func (d *dice) sheetLine() string {
	line := strings.Repeat(" ", d.roll(3))
	for range d.roll(10) {
		line += d.sheetPiece() + strings.Repeat(" ", pick(d, 1, 1, 1, 1, 2, 5, 0))
	}
	if d.roll(3) == 0 {
		line += "#" + d.sheetBytes(d.roll(20))
	}
	return line
}

func (d *dice) sheetPiece() string {
	switch d.roll(24) {
	case 0:
		return d.sheetBytes(1 + d.roll(3))
	case 1:
		return pick(d, `"`, `"a`, `a"`, `""b`, `"a"b`, `\41`, `"\4"`, `"\4G"`, `"\AA"`, "#", `"\`)
	case 2:
		return letters(pick(d, 199, 200, 201))
	case 3:
		return quoted(strings.Repeat(`\e9`, pick(d, 199, 200, 201)))
	case 4, 5:
		return `""`
	case 6, 7, 8, 9:
		return impl.SheetWord(d.sheetBytes(d.roll(12)))
	case 10, 11, 12:
		return quoted(pick(d, "a b", " ", "#", "a # b", "'", `\22`, `\5c`, `\00`, `\41\42`, `x\0ay`, "zone=east & ssd"))
	}
	return pick(d, "service", "web", "want", "3", "like", "-5", "end", "a=b", "!", "~", "+1", "x_y")
}

func (d *dice) sheetBytes(size int) string {
	bytes := make([]byte, size)
	for i := range bytes {
		bytes[i] = byte(d.roll(256))
	}
	return string(bytes)
}

// Promise 46, over lines that are made up.
func TestSheetPromise46MadeUpLines(t *testing.T) {
	d := dice(46)
	count := map[int]int{}
	for range 40000 {
		got := checkPromise46(t, d.sheetLine())
		if got.Bad {
			count[-1]++
		} else {
			count[len(got.Words)]++
		}
	}
	for many := -1; many <= 8; many++ {
		if count[many] < 100 {
			t.Errorf("of %d words (-1: bad) there are %d lines", many, count[many])
		}
	}
}

// Promise 46, over words of any bytes: as each can stand on a line, it is written so that it is read.
func TestSheetPromise46Words(t *testing.T) {
	check := func(words ...string) {
		t.Helper()
		line := sheetJoined(words, " ")
		if got := impl.SheetWords(line); !same(got, cut{Words: words}) {
			t.Errorf("promise 46: %q are written as %q, which has %q, bad: %v", words, line, got.Words, got.Bad)
		}
		for _, word := range words {
			if text := impl.SheetWord(word); !sheetOneWord.MatchString(text) || sheetOneWord.FindString(text) != text {
				t.Errorf("%q is written as %q, which is no word", word, text)
			}
		}
	}
	check()
	check("")
	for a := range 256 {
		check(sheetText(a))
		check(strings.Repeat(sheetText(a), 200))
		for b := range 256 {
			check(sheetText(a) + sheetText(b))
		}
	}
	d := dice(4646)
	for range 4000 {
		words := make(texts, d.roll(9))
		for i := range words {
			words[i] = d.sheetBytes(pick(&d, 0, 1, 2, 5, 20, 199, 200))
		}
		check(words...)
	}
}
