package tests

import (
	"strconv"
	"strings"
	"testing"

	"loop.example/wharfdesk/impl"
)

func checkWritten(t *testing.T, what, word, want string) {
	t.Helper()
	if got := impl.SheetWord(word); got != want {
		t.Errorf("%s: %q is written as %q, not as %q", what, word, got, want)
	}
}

func TestSheetWordOrdinary(t *testing.T) {
	for _, bare := range []string{"a", "service", "web", "3", "-1", "+1", "a=b", "a-1", "A", "~", "!", "-", "a|b&c", "'a'", "end", "0", "$[]{}<>()/*%^`@:;.,?_"} {
		checkWritten(t, "a word that can be bare", bare, bare)
	}
	for word, want := range map[string]string{
		"": `""`, " ": `" "`, "a b": `"a b"`, " a": `" a"`, "a ": `"a "`, "zone=east & ssd": `"zone=east & ssd"`,
		"#": `"#"`, "a#b": `"a#b"`, "#a": `"#a"`, "a#": `"a#"`,
		`"`: `"\22"`, `a"b`: `"a\22b"`, `"a"`: `"\22a\22"`, `\`: `"\5c"`, `a\b`: `"a\5cb"`, `\41`: `"\5c41"`, `\\`: `"\5c\5c"`,
		"\n": `"\0a"`, "a\tb": `"a\09b"`, "\x00": `"\00"`, "\x1f": `"\1f"`, "\x7f": `"\7f"`, "\x80": `"\80"`, "\xff": `"\ff"`, "é": `"\c3\a9"`, "a \xab\xcd\xef": `"a \ab\cd\ef"`,
		"\"\\\n\xff": `"\22\5c\0a\ff"`,
	} {
		checkWritten(t, "a word that cannot", word, want)
	}
}

// sheetWrittenByte is a byte in quotes.
func sheetWrittenByte(c int) string {
	if sheetPlainByte(c) {
		return sheetText(c)
	}
	number := strconv.FormatInt(int64(c), 16)
	return `\` + strings.Repeat("0", 2-len(number)) + number
}

// Every byte alone, doubled, and among others.
func TestSheetWordEveryByte(t *testing.T) {
	for c := range 256 {
		text, written := sheetText(c), sheetWrittenByte(c)
		for _, around := range [][2]string{{"", ""}, {"a", ""}, {"", "a"}, {"a", "b"}, {"0", "0"}, {"~", "!"}, {letters(300), letters(300)}} {
			word := around[0] + text + around[1]
			if sheetBareByte(c) {
				checkWritten(t, "a byte that may be bare", word, word)
			} else {
				checkWritten(t, "a byte that may not be bare", word, quoted(around[0]+written+around[1]))
			}
			checkWritten(t, "a byte beside a space", " "+word, quoted(" "+around[0]+written+around[1]))
			checkWritten(t, "a byte beside others", word+"\"#\\\x00", quoted(around[0]+written+around[1]+`\22#\5c\00`))
		}
	}
}

// A word that is too great for a line is written in the same way.
func TestSheetWordSizes(t *testing.T) {
	for _, size := range []int{1, 2, 199, 200, 201, 202, 1000, 100000} {
		checkWritten(t, "bare", letters(size), letters(size))
		checkWritten(t, "in quotes", strings.Repeat(" ", size), quoted(strings.Repeat(" ", size)))
		checkWritten(t, "in numbers", strings.Repeat("\xff", size), quoted(strings.Repeat(`\ff`, size)))
		checkWritten(t, "all but the last one bare", letters(size)+"#", quoted(letters(size)+"#"))
		checkWritten(t, "all but the first one bare", "\n"+letters(size), quoted(`\0a`+letters(size)))
	}
}
