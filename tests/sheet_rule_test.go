package tests

import (
	"reflect"
	"slices"
	"strings"
	"testing"

	"loop.example/wharfdesk/impl"
)

type sheetRules = []impl.SheetRule

// sheetKinds are those that have rules.
func sheetKinds() texts {
	return texts{"berth", "service", "team"}
}

// sheetTable is the document's table of kinds and keys.
func sheetTable() map[string]sheetRules {
	one := func(key string, of int, by string) impl.SheetRule {
		return impl.SheetRule{Key: key, Args: []int{of}, Default: texts{by}}
	}
	three := func(key string) impl.SheetRule {
		return impl.SheetRule{Key: key, Args: []int{1, 1, 1}, Default: texts{"0", "0", "0"}}
	}
	return map[string]sheetRules{
		"team":  {one("copies", 1, "100"), one("room", 1, "1000")},
		"berth": {one("zone", 3, "z"), one("room", 1, "100"), one("hold", 1, "100"), {Key: "mark", Args: []int{3}, Many: true}},
		"service": {
			one("team", 3, "core"), one("image", 1, "1"), one("want", 1, "1"), one("down", 1, "1"), one("over", 1, "0"),
			{Key: "needs", Args: []int{1, 1}, Default: texts{"1", "1"}},
			one("where", 4, ""),
			{Key: "like", Args: []int{4, 2}, Many: true},
			one("apart", 6, "none"), one("volume", 5, "no"), three("follow"), three("pace"),
		},
	}
}

// sheetOtherKinds are none, though some are almost one.
func sheetOtherKinds() texts {
	list := texts{"", " ", "end", "key", "kind", "Team", "TEAM", "Berth", "BERTH", "Service", "SERVICE", "teams", "berths", "services", "copies", "room", "zone", "mark", "like", "core", "none", "desk", "1", "#", `"team"`, "team berth", letters(1000)}
	for _, kind := range sheetKinds() {
		for at := range len(kind) + 1 {
			for _, c := range []byte("a sS-\x00\xff\n") {
				list = append(list, kind[:at]+string([]byte{c})+kind[at:])
			}
			if at < len(kind) {
				list = append(list, kind[:at]+kind[at+1:], kind[:at]+strings.ToUpper(kind[at:at+1])+kind[at+1:], kind[:at])
			}
		}
	}
	return list
}

func TestSheetConstants(t *testing.T) {
	types := []int{impl.SheetNumber, impl.SheetSigned, impl.SheetName, impl.SheetText, impl.SheetYes, impl.SheetApart}
	if !slices.Equal(types, []int{1, 2, 3, 4, 5, 6}) {
		t.Errorf("types of words: %v", types)
	}
	limits := []int{impl.SheetMaxText, impl.SheetMaxLines, impl.SheetMaxWord, impl.SheetMaxWords, impl.SheetMaxName, impl.SheetMaxBlocks, impl.SheetMaxMany, impl.SheetMaxNumber}
	if !slices.Equal(limits, []int{20000, 400, 200, 8, 20, 60, 10, 1000000}) {
		t.Errorf("limits: %v", limits)
	}
}

func TestSheetRulesOfKinds(t *testing.T) {
	for kind, want := range sheetTable() {
		if got := impl.SheetRules(kind); !same(got, want) {
			t.Errorf("%s: %+v, not %+v", kind, got, want)
		}
	}
	for _, kind := range sheetOtherKinds() {
		if got := impl.SheetRules(kind); len(got) != 0 {
			t.Errorf("%q has rules: %+v", kind, got)
		}
	}
}

// Whatever is written into an answer, or behind the ends of its lists, no other one has it.
func TestSheetRulesAreNew(t *testing.T) {
	for _, kind := range sheetKinds() {
		want := sheetTable()[kind]
		first, second := impl.SheetRules(kind), impl.SheetRules(kind)
		newMemory(t, kind, first, second)
		var spoil func(v reflect.Value)
		spoil = func(v reflect.Value) {
			eachPart(v, true, spoil)
			mark(v)
		}
		spoil(reflect.ValueOf(&first).Elem())
		if same(first, want) {
			t.Errorf("%s: nothing is changed", kind)
		}
		if !same(second, want) || !same(impl.SheetRules(kind), want) {
			t.Errorf("%s: a change of one answer is seen in another one", kind)
		}
		for _, rule := range want {
			if !rule.Many && !impl.SheetFits(kind, rule.Key, rule.Default) {
				t.Errorf("%s %s: a change of an answer is seen in what fits", kind, rule.Key)
			}
		}
	}
}

// Promise 56, and that what has no Default is many.
func TestSheetPromise56(t *testing.T) {
	for _, kind := range sheetKinds() {
		rules := impl.SheetRules(kind)
		if len(rules) == 0 {
			t.Errorf("%s has no rules", kind)
		}
		for _, rule := range rules {
			if rule.Many && len(rule.Default) != 0 {
				t.Errorf("%s %s is many, but is %q by default", kind, rule.Key, rule.Default)
			}
			if !rule.Many && !impl.SheetFits(kind, rule.Key, rule.Default) {
				t.Errorf("promise 56: %s %s: %q does not fit", kind, rule.Key, rule.Default)
			}
		}
	}
}

// A Default can be written on a sheet: it stands on a line behind its key.
func TestSheetDefaultsAreWords(t *testing.T) {
	for kind, rules := range sheetTable() {
		for _, rule := range rules {
			words := append(texts{rule.Key}, rule.Default...)
			checkCut(t, kind, "  "+sheetJoined(words, " "), words...)
		}
	}
}
