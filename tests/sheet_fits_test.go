package tests

import (
	"regexp"
	"slices"
	"strconv"
	"strings"
	"testing"

	"loop.example/wharfdesk/impl"
)

// sheetSamples are words that are of a type, and words that are not.
type sheetSamples struct{ fit, unfit texts }

// sheetSamplesBy has them at the place of each type.
var sheetSamplesBy = sheetSamplesOf()

var sheetNameForm = regexp.MustCompile(`\A[a-z0-9-]{1,20}\z`)

func sheetSamplesOf() [7]sheetSamples {
	numbers := texts{"0", "1", "2", "9", "10", "19", "99", "100", "101", "12345", "99999", "100000", "999999", "1000000"}
	noNumbers := texts{
		"", " ", "-", "--", "+", "+0", "+1", "++1", "-+1", "+-1", "--1", "-0", "-00", "-01", "-1-", "1-", "1-1", "0-", "00", "01", "000", "007", "0000000", "0000001", "01000000", "-01000000", "1000001", "1000002", "1000010", "1999999", "2000000", "9999999", "10000000", "99999999", "100000000", "-1000001", "-9999999", "-10000000",
		"4294967296", "4294967297", "18446744073709551616", "18446744073709551617", "-18446744073709551615", "9223372036854775808", strings.Repeat("9", 200), strings.Repeat("9", 10000), strings.Repeat("0", 200), "-" + strings.Repeat("0", 200), "-" + strings.Repeat("9", 200),
		" 1", "1 ", "1 1", "- 1", "-1 ", "\t1", "1\n", "1\x00", "\x001", "1.", "1.0", ".1", "1,000", "1_0", "1e3", "0x1", "0b1", "0o7", "a", "f", "1a", "a1", "one", "١", "１", "½", "−1", "/", ":", "1/", "1:", "yes", "none", "\xff", "1\xff",
	}
	var below texts
	for _, number := range numbers[1:] {
		below = append(below, "-"+number)
	}
	return [7]sheetSamples{
		1: {numbers, slices.Concat(below, noNumbers)},
		2: {slices.Concat(below, numbers), noNumbers},
		3: {
			texts{"a", "z", "m", "0", "9", "-", "--", "a-1", "1-a", "-a", "a-", "core", "web", "00", "-0", "-1", "1000001", "yes", "zone", letters(2), letters(19), letters(20), strings.Repeat("-", 20), strings.Repeat("9", 20), "abcdefghijklmnopqrst", "uvwxyz-0123456789"},
			texts{"", " ", "A", "Z", "Web", "weB", "a b", " a", "a ", "a_1", "a.b", "a/b", "a:b", "a=b", "a+b", "`", "{", "/", ":", "@", "[", "#", "\"", "\\", "\x00", "a\x00", "a\n", "\n", "\t", "é", "\xff", "a\xff", letters(21), letters(22), letters(200), letters(201), letters(20) + "\x00", strings.Repeat("-", 21), strings.Repeat("é", 3), letters(10000)},
		},
		4: {
			texts{"", " ", "a", "A", "a b", "#", "\"", "\\", "\x00", "\n", "\xff", "é", "zone=east & ssd", letters(21), letters(199), letters(200), strings.Repeat(" ", 200), strings.Repeat("\x00", 200), strings.Repeat("\xff", 200), strings.Repeat("é", 100)},
			texts{letters(201), letters(202), letters(400), letters(10000), strings.Repeat("\x00", 201), strings.Repeat(" ", 201), strings.Repeat("é", 100) + "a", strings.Repeat("é", 101)},
		},
		5: {
			texts{"yes", "no"},
			texts{"", " ", "Yes", "YES", "yEs", "yeS", "No", "NO", "nO", "y", "n", "ye", "o", "es", "yes ", " yes", "no ", " no", "yes\n", "no\x00", "yesno", "yes no", "nono", "none", "not", "yess", "noo", "true", "false", "1", "0", "-", "maybe", letters(201)},
		},
		6: {
			texts{"none", "berth", "zone"},
			texts{"", " ", "None", "NONE", "nonE", "Berth", "BERTH", "Zone", "ZONE", "non", "one", "no", "bert", "erth", "zon", "nones", "berths", "zones", "zone ", " zone", "none\n", "berth\x00", "noneberth", "none zone", "host", "team", "z", "b", "n", "0", "yes", "apart", letters(201)},
		},
	}
}

// sheetIsOf says whether a word is of a type, by the document's table.
func sheetIsOf(of int, word string) bool {
	switch of {
	case 1:
		number, err := strconv.Atoi(word)
		return err == nil && recIn(0, 1000000, number) && strconv.Itoa(number) == word
	case 2:
		number, err := strconv.Atoi(word)
		return err == nil && recIn(-1000000, 1000000, number) && strconv.Itoa(number) == word
	case 3:
		return sheetNameForm.MatchString(word)
	case 4:
		return len(word) <= 200
	case 5:
		return slices.Contains(texts{"yes", "no"}, word)
	}
	return slices.Contains(texts{"none", "berth", "zone"}, word)
}

// checkFitting says whether words fit a key, which they do in the same way each time; they are not changed.
func checkFitting(t *testing.T, kind, key string, words texts, want bool) {
	t.Helper()
	words = spread(words)
	before := whole(words)
	for range 2 {
		if got := impl.SheetFits(kind, key, words); got != want {
			t.Errorf("%q %q %.300q: it fits: %v", kind, key, words, got)
		}
	}
	if !same(whole(words), before) {
		t.Errorf("%q %q: the words are changed", kind, key)
	}
}

// sheetFitting are words that fit a rule, others for other n.
func sheetFitting(rule impl.SheetRule, n int) texts {
	var words texts
	for place, of := range rule.Args {
		fit := sheetSamplesBy[of].fit
		words = append(words, fit[(n+place)%len(fit)])
	}
	return words
}

// eachSheetRule goes over the document's table.
func eachSheetRule(visit func(kind string, rule impl.SheetRule)) {
	for _, kind := range sheetKinds() {
		for _, rule := range sheetTable()[kind] {
			visit(kind, rule)
		}
	}
}

func TestSheetSamples(t *testing.T) {
	for of, samples := range sheetSamplesBy {
		for _, word := range samples.fit {
			if !sheetIsOf(of, word) {
				t.Errorf("type %d: %q is not of it", of, word)
			}
		}
		for _, word := range samples.unfit {
			if sheetIsOf(of, word) {
				t.Errorf("type %d: %q is of it", of, word)
			}
		}
	}
}

// Each word of the samples of every type, at each place of each key.
func TestSheetFitsTypes(t *testing.T) {
	var all texts
	for _, samples := range sheetSamplesBy {
		all = append(append(all, samples.fit...), samples.unfit...)
	}
	eachSheetRule(func(kind string, rule impl.SheetRule) {
		for place, of := range rule.Args {
			for n, word := range all {
				words := sheetFitting(rule, n)
				words[place] = word
				checkFitting(t, kind, rule.Key, words, sheetIsOf(of, word))
			}
		}
	})
}

// Each byte, alone and among others, as a word of each type.
func TestSheetFitsEveryByte(t *testing.T) {
	eachSheetRule(func(kind string, rule impl.SheetRule) {
		for place, of := range rule.Args {
			for c := range 256 {
				text := sheetText(c)
				for _, word := range []string{text, "a" + text + "z", "1" + text + "2", "-" + text, "1" + text, text + "1", "yes" + text, text + "none", text + text} {
					words := sheetFitting(rule, c)
					words[place] = word
					checkFitting(t, kind, rule.Key, words, sheetIsOf(of, word))
				}
			}
		}
	})
}

// Every number up to the greatest, and some behind it.
func TestSheetFitsNumbers(t *testing.T) {
	for number := 0; number <= 1000000+2000; number++ {
		if number > 2000 && number < 1000000-2000 && number%997 != 0 {
			continue
		}
		text := strconv.Itoa(number)
		within := number <= 1000000
		for _, c := range []struct {
			word   string
			number bool
			signed bool
		}{{text, within, within}, {"-" + text, false, within && number > 0}, {"0" + text, false, false}, {"-0" + text, false, false}, {"+" + text, false, false}, {text + " ", false, false}} {
			if impl.SheetFits("team", "room", texts{c.word}) != c.number || impl.SheetFits("service", "like", texts{"", c.word}) != c.signed {
				t.Errorf("%q", c.word)
			}
		}
	}
}

func TestSheetFitsHowMany(t *testing.T) {
	eachSheetRule(func(kind string, rule impl.SheetRule) {
		words := sheetFitting(rule, 0)
		checkFitting(t, kind, rule.Key, words, true)
		for less := range words {
			checkFitting(t, kind, rule.Key, words[:less], false)
			checkFitting(t, kind, rule.Key, words[less+1:], false)
		}
		if impl.SheetFits(kind, rule.Key, nil) {
			t.Errorf("%s %s takes no words", kind, rule.Key)
		}
		more := slices.Clone(words)
		for _, word := range []string{"1", "", words[0], words[len(words)-1], "1", "1", "1"} {
			more = append(more, word)
			checkFitting(t, kind, rule.Key, more, false)
		}
		checkFitting(t, kind, rule.Key, slices.Repeat(words, 1000), false)
		checkFitting(t, kind, rule.Key, append(texts{rule.Key}, words...), false)
	})
}

// Words that fit a key of one kind fit a key of another one, or another key, only by its own rule.
func TestSheetFitsKinds(t *testing.T) {
	eachSheetRule(func(kind string, rule impl.SheetRule) {
		words := sheetFitting(rule, 3)
		eachSheetRule(func(_ string, other impl.SheetRule) {
			for _, of := range sheetKinds() {
				checkFitting(t, of, other.Key, words, sheetFitsAsRead(of, other.Key, words))
			}
		})
		for _, other := range sheetOtherKinds() {
			if impl.SheetFits(other, rule.Key, words) {
				t.Errorf("%q %s %q fits", other, rule.Key, words)
			}
		}
		for _, key := range []string{"", " ", rule.Key + " ", " " + rule.Key, strings.ToUpper(rule.Key), strings.ToUpper(rule.Key[:1]) + rule.Key[1:], rule.Key[1:], rule.Key[:len(rule.Key)-1], rule.Key + "s", rule.Key + "\x00", kind + " " + rule.Key, kind, "end", "#" + rule.Key, letters(1000)} {
			checkFitting(t, kind, key, words, sheetFitsAsRead(kind, key, words))
		}
	})
	checkFitting(t, "team", "room", texts{"5"}, true)
	checkFitting(t, "berth", "room", texts{"5"}, true)
	checkFitting(t, "service", "room", texts{"5"}, false)
	checkFitting(t, "team", "zone", texts{"z"}, false)
	checkFitting(t, "berth", "copies", texts{"5"}, false)
	checkFitting(t, "service", "team", texts{"core"}, true)
	checkFitting(t, "team", "team", texts{"core"}, false)
	checkFitting(t, "team", "", nil, false)
	checkFitting(t, "", "", nil, false)
	checkFitting(t, "", "room", texts{"5"}, false)
}

// sheetFitsAsRead is what fits by the document's words.
func sheetFitsAsRead(kind, key string, words texts) bool {
	for _, rule := range sheetTableRead[kind] {
		if rule.Key != key || len(rule.Args) != len(words) {
			continue
		}
		for place, of := range rule.Args {
			if !sheetIsOf(of, words[place]) {
				return false
			}
		}
		return true
	}
	return false
}

// Keys that are many take each line as others do; how often they come is not asked here.
func TestSheetFitsMany(t *testing.T) {
	for _, mark := range []string{"a-1", "ssd", letters(20)} {
		checkFitting(t, "berth", "mark", texts{mark}, true)
	}
	checkFitting(t, "berth", "mark", texts{"a", "b"}, false)
	checkFitting(t, "berth", "mark", texts{"a b"}, false)
	checkFitting(t, "service", "like", texts{"ssd", "5"}, true)
	checkFitting(t, "service", "like", texts{"", "-1000000"}, true)
	checkFitting(t, "service", "like", texts{letters(200), "1000000"}, true)
	checkFitting(t, "service", "like", texts{"5", "ssd"}, false)
	checkFitting(t, "service", "like", texts{"ssd"}, false)
	checkFitting(t, "service", "like", texts{"ssd", "5", "ssd", "5"}, false)
}

// Words that are made up, of which each is of its type most of the time.
func TestSheetFitsMadeUp(t *testing.T) {
	d := dice(38)
	samples := sheetSamplesBy
	count := map[bool]int{}
	for range 60000 {
		kind := pick(&d, sheetKinds()...)
		rule := pick(&d, sheetTable()[kind]...)
		words := texts{}
		for _, of := range rule.Args {
			of = pick(&d, of, of, of, of, of, of, of, 1+d.roll(6))
			words = append(words, pick(&d, pick(&d, samples[of].fit, samples[of].fit, samples[of].fit, samples[of].unfit)...))
		}
		switch d.roll(10) {
		case 0:
			words = append(words, "1")
		case 1:
			words = words[1:]
		case 2:
			kind = pick(&d, sheetKinds()...)
		}
		want := sheetFitsAsRead(kind, rule.Key, words)
		checkFitting(t, kind, rule.Key, words, want)
		count[want]++
	}
	if count[true] < 10000 || count[false] < 10000 {
		t.Errorf("what fits, and what does not: %v", count)
	}
}
