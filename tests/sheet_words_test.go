package tests

import (
	"strconv"
	"strings"
	"testing"

	"loop.example/wharfdesk/impl"
)

type cut = impl.SheetCut

// checkCut says what the words of a line are.
func checkCut(t *testing.T, what, line string, words ...string) {
	t.Helper()
	got := impl.SheetWords(line)
	if !same(got, cut{Words: words}) {
		t.Errorf("%s: %q is cut into %q, bad: %v, not into %q", what, line, got.Words, got.Bad, words)
	}
	newMemory(t, what, got, words, impl.SheetWords(line))
}

// checkBadLine says that a text is no line.
func checkBadLine(t *testing.T, what, line string) {
	t.Helper()
	if got := impl.SheetWords(line); !same(got, cut{Bad: true}) {
		t.Errorf("%s: %q is cut into %q, bad: %v", what, line, got.Words, got.Bad)
	}
}

// checkCutOr says that the words of a line are these if it is one, and that it is Bad if not.
func checkCutOr(t *testing.T, what string, isLine bool, line string, words ...string) {
	t.Helper()
	if isLine {
		checkCut(t, what, line, words...)
	} else {
		checkBadLine(t, what, line)
	}
}

func sheetText(c int) string {
	return string([]byte{byte(c)})
}

// sheetBareByte says whether a byte may be in a bare word, sheetPlainByte whether it stands for itself in quotes.
func sheetBareByte(c int) bool {
	return recIn(33, 126, c) && c != 34 && c != 35 && c != 92
}

func sheetPlainByte(c int) bool {
	return recIn(32, 126, c) && c != 34 && c != 92
}

func quoted(inner string) string {
	return `"` + inner + `"`
}

func TestSheetWordsOrdinary(t *testing.T) {
	for _, c := range []struct {
		line  string
		words texts
	}{
		{"service web", texts{"service", "web"}},
		{"  want 3", texts{"want", "3"}},
		{"end", texts{"end"}},
		{"  like ssd 5   # soon", texts{"like", "ssd", "5"}},
		{`  where "zone=east & ssd"`, texts{"where", "zone=east & ssd"}},
		{`"end"`, texts{"end"}},
		{`like "" -5`, texts{"like", "", "-5"}},
		{"follow 0 0 0", texts{"follow", "0", "0", "0"}},
		{"-1 +1 a=b|c -_.,;:!?'()[]{}<>/*&%$^~`@", texts{"-1", "+1", "a=b|c", "-_.,;:!?'()[]{}<>/*&%$^~`@"}},
	} {
		checkCut(t, "an ordinary line", c.line, c.words...)
	}
}

func TestSheetWordsSpaces(t *testing.T) {
	for many := range 12 {
		spaces := strings.Repeat(" ", many)
		checkCut(t, "spaces alone", spaces)
		checkCut(t, "spaces ahead", spaces+"a", "a")
		checkCut(t, "spaces behind", "a"+spaces, "a")
		checkCut(t, "spaces around", spaces+"a"+spaces, "a")
		checkCut(t, "spaces around quotes", spaces+`" "`+spaces, " ")
		checkCut(t, "spaces in quotes", quoted(spaces), spaces)
		checkCut(t, "spaces ahead of a comment", spaces+"#"+spaces)
		if many > 0 {
			checkCut(t, "spaces between", "a"+spaces+"b"+spaces+`"c"`+spaces+"d", "a", "b", "c", "d")
			checkCut(t, "spaces between quotes", `""`+spaces+`"b"`, "", "b")
		}
	}
	checkCut(t, "many spaces", strings.Repeat(" ", 30000)+"a"+strings.Repeat(" ", 30000)+"b"+strings.Repeat(" ", 30000), "a", "b")
}

// Every byte, bare and in quotes, and in the neighbourhood of words.
func TestSheetWordsEveryByte(t *testing.T) {
	for c := range 256 {
		text, bare, plain := sheetText(c), sheetBareByte(c), sheetPlainByte(c)
		switch text {
		case " ":
			checkCut(t, "a space alone", text)
			checkCut(t, "a space within", "a b", "a", "b")
			checkCut(t, "a space behind", "a ", "a")
			checkCut(t, "a space behind quotes", `"a" b`, "a", "b")
		case "#":
			checkCut(t, "a comment alone", text)
			checkCut(t, "a comment within", "a#b", "a")
			checkCut(t, "a comment behind", "a#", "a")
			checkCut(t, "a comment behind quotes", `"a"#b`, "a")
		default:
			checkCutOr(t, "a byte as a word", bare, text, text)
			checkCutOr(t, "a byte within a word", bare, "a"+text+"b", "a"+text+"b")
			checkCutOr(t, "a byte behind a word", bare, "a"+text, "a"+text)
			checkCutOr(t, "a byte ahead of a word", bare, text+"a", text+"a")
			checkCutOr(t, "a byte as a second word", bare, "a "+text+" b", "a", text, "b")
			checkBadLine(t, "a byte behind quotes", `"a"`+text)
			checkBadLine(t, "a byte behind quotes", `"a"`+text+" b")
			checkBadLine(t, "a byte behind the empty word", `""`+text)
		}
		if text == `"` {
			checkCut(t, "quotes within quotes end them", `"" "b"`, "", "b")
			continue
		}
		checkCutOr(t, "a byte in quotes", plain, quoted(text), text)
		checkCutOr(t, "a byte within quotes", plain, quoted("a"+text+"g"), "a"+text+"g")
		checkCutOr(t, "a byte at the end of quotes", plain, quoted("a"+text), "a"+text)
		checkBadLine(t, "a byte in quotes that are not closed", `"`+text)
	}
}

// Every two bytes behind a backslash.
func TestSheetWordsEveryEscape(t *testing.T) {
	digits := "0123456789abcdef"
	for high := range 256 {
		for low := range 256 {
			line := `"\` + sheetText(high) + sheetText(low) + `"`
			h, l := strings.Index(digits, sheetText(high)), strings.Index(digits, sheetText(low))
			if got := impl.SheetWords(line); h >= 0 && l >= 0 && !same(got, cut{Words: texts{sheetText(16*h + l)}}) || (h < 0 || l < 0) && !same(got, cut{Bad: true}) {
				t.Errorf("%q: %q, bad: %v", line, got.Words, got.Bad)
			}
		}
	}
}

func TestSheetWordsEscapes(t *testing.T) {
	checkCut(t, "the least and the greatest byte", `"\00\ff"`, "\x00\xff")
	checkCut(t, "what may not stand for itself", `"\22\5c\0a\7f"`, "\"\\\n\x7f")
	checkCut(t, "what may stand for itself", `"\41\20\23\61"`, "A #a")
	checkCut(t, "a digit behind", `"\410"`, "A0")
	checkCut(t, "one behind the other", `"\5c\41"`, `\A`)
	checkCut(t, "a quote that does not end it", `"a\22 b\22"`, `a" b"`)
	checkCut(t, "bytes of a letter", `"\c3\a9"`, "é")
	for _, line := range []string{
		`"\4A"`, `"\A4"`, `"\AF"`, `"\fF"`, `"\4"`, `"\"`, `"\"a`, `"\4`, `"\41`, `"\`, `"a\`, `"\g0"`, `"\0g"`, `"\ 1"`, `"\1 "`, `"\\"`, `"\\5c"`, `"\x41"`, `"\n"`, `"\""`, `"\-1"`, `"\+1"`,
		`\41`, `a\41`, `\`, `\\`, `a \ b`, `"a"\41`,
	} {
		checkBadLine(t, "no byte of a number", line)
	}
}

func TestSheetWordsQuotes(t *testing.T) {
	checkCut(t, "the empty word", `""`, "")
	checkCut(t, "empty words", `"" ""  ""`, "", "", "")
	checkCut(t, "the empty word among others", `a "" b`, "a", "", "b")
	checkCut(t, "quotes at the end", `a "b c"`, "a", "b c")
	checkCut(t, "a space behind quotes", `"b" `, "b")
	checkCut(t, "a word behind quotes", `"b" c`, "b", "c")
	checkCut(t, "a comment in quotes is none", `"a # b" c`, "a # b", "c")
	checkCut(t, "a comment behind quotes", `"a"# b`, "a")
	for _, line := range []string{
		`"`, `"a`, `"a b c`, `a "`, `a "b`, `"" "`, `"a" "b`, `"#`, `"a # b`, `" `, `"""`, `"a""b"`, `""""`, `""a`, `"a"b`, `"a"b"`, `"a"-`, `"a"'`,
		`a"`, `a""`, `a"b"`, `a"b`, `-"b"`, `a "b"c`, `a b"c"`, `=""`, "\"a\"\t", "\"a\"\n", "\"a\"\x00", "\"a\n\"", "\"a\tb\"", "\"\xc3\xa9\"", "\"\x80\"",
	} {
		checkBadLine(t, "quotes", line)
	}
}

func TestSheetWordsComments(t *testing.T) {
	everything := ""
	for c := range 256 {
		everything += sheetText(c)
	}
	for _, comment := range []string{"", " ", "a", "#", "##", ` "`, `"`, `\`, ` \4`, ` "a"b`, "\t", "\n", "\x00", "\x7f", "\xff", "é", " 1 2 3 4 5 6 7 8 9 10", letters(201), " " + letters(100000), everything} {
		comment = "#" + comment
		checkCut(t, "a comment alone", comment)
		checkCut(t, "a comment behind spaces", "   "+comment)
		checkCut(t, "a comment directly behind a word", "a b"+comment, "a", "b")
		checkCut(t, "a comment behind a word and a space", "a b "+comment, "a", "b")
		checkCut(t, "a comment directly behind quotes", `a "b c"`+comment, "a", "b c")
		checkCut(t, "a comment behind quotes and spaces", `a "b c"  `+comment, "a", "b c")
		checkCut(t, "a comment behind the empty word", `""`+comment, "")
		checkBadLine(t, "a comment behind what is no word", "a\t"+comment)
		checkBadLine(t, "a comment behind a backslash", `\`+comment)
		checkBadLine(t, "a comment behind quotes and a byte", `"a"b`+comment)
	}
}

// It is the bytes for which a word stands that count.
func TestSheetWordsSizes(t *testing.T) {
	for _, size := range []int{1, 2, 199, 200, 201, 202, 400, 599, 600, 601, 5000} {
		fits := size <= 200
		word := letters(size)
		checkCutOr(t, "a bare word", fits, word, word)
		checkCutOr(t, "a bare word among others", fits, "a "+word+" b", "a", word, "b")
		checkCutOr(t, "a bare word ahead of a comment", fits, word+"#"+word, word)
		checkCutOr(t, "a word in quotes", fits, quoted(word), word)
		checkCutOr(t, "spaces in quotes", fits, quoted(strings.Repeat(" ", size)), strings.Repeat(" ", size))
		checkCutOr(t, "a word of numbers", fits, quoted(strings.Repeat(`\ff`, size)), strings.Repeat("\xff", size))
		checkCutOr(t, "a word with one number", fits, quoted(letters(size-1)+`\00`), letters(size-1)+"\x00")
		checkCutOr(t, "a word that begins with a number", fits, quoted(`\61`+letters(size-1)), word)
	}
	greatest := letters(200)
	checkCut(t, "as many great words as there may be", strings.Repeat(" "+greatest, 8), greatest, greatest, greatest, greatest, greatest, greatest, greatest, greatest)
}

func TestSheetWordsMany(t *testing.T) {
	for many := range 14 {
		for what, word := range map[string]string{"bare": "w", "in quotes": `"w w"`, "empty": `""`, "numbers": `"\77"`} {
			line := strings.TrimSpace(strings.Repeat(word+" ", many))
			want := texts{}
			for range many {
				want = append(want, map[string]string{"bare": "w", "in quotes": "w w", "empty": "", "numbers": "w"}[what])
			}
			fits := many <= 8
			checkCutOr(t, what, fits, line, want...)
			checkCutOr(t, what+", with spaces behind", fits, " "+line+"   ", want...)
			checkCutOr(t, what+", with a comment behind", fits, line+"# 9 10 11 12", want...)
			checkCutOr(t, what+", with a comment further behind", fits, line+"  # 9", want...)
			checkBadLine(t, what+", with what is no word behind", line+" \t")
		}
	}
	eight := "1 2 3 4 5 6 7 8"
	for _, behind := range []string{" 9", "  9#", ` ""`, ` "9"`, " 9 # 10", ` "`, ` \`, strings.Repeat(" 9", 1000)} {
		checkBadLine(t, "more than eight", eight+behind)
	}
	for _, behind := range []string{"", " ", "#", "#9", " #9", " # 9 10", ` #"`} {
		checkCut(t, "eight", eight+behind, "1", "2", "3", "4", "5", "6", "7", "8")
	}
}

// What is Bad tells no words, wherever the fault stands.
func TestSheetWordsBadTellsNothing(t *testing.T) {
	for ahead := range 9 {
		line := ""
		for i := range ahead {
			line += "w" + strconv.Itoa(i) + " "
		}
		for _, fault := range []string{"\t", `"`, `"a`, `"a"b`, `a"`, `a\`, `\41`, `"\4G"`, "é", "a\n", "\r", letters(201), quoted(letters(201))} {
			checkBadLine(t, "a fault at the end", line+fault)
			checkBadLine(t, "a fault, with a word behind it", line+fault+" x")
			checkBadLine(t, "a fault, with a comment behind it", line+fault+" # x")
			checkCut(t, "a fault in a comment", "a #"+fault, "a")
		}
	}
}

func TestSheetWordsLongLines(t *testing.T) {
	checkBadLine(t, "a long word", letters(1<<20))
	checkBadLine(t, "quotes that are long", quoted(letters(1<<20)))
	checkBadLine(t, "quotes that are never closed", `"`+letters(1<<20))
	checkBadLine(t, "many words", strings.Repeat("a ", 1<<19))
	checkBadLine(t, "many quotes", strings.Repeat(`"`, 1<<20))
	checkBadLine(t, "many backslashes", `"`+strings.Repeat(`\`, 1<<20))
	checkCut(t, "a long comment", "a #"+strings.Repeat(`"\`, 1<<20), "a")
	checkCut(t, "many spaces", strings.Repeat(" ", 1<<20))
}
