package tests

import (
	"slices"
	"strings"
	"testing"

	"loop.example/wharfdesk/impl"
)

// getSheet has blocks of each kind, some names in several kinds.
func getSheet() sheet {
	return sheetOf(
		blockOf("berth", "a", said("zone", "y"), said("mark", "l"), said("mark", "m"), said("mark", "z")),
		blockOf("berth", "b"),
		blockOf("service", "a", said("team", "dev"), said("needs", "2", "3"), said("where", "x y"), said("like", "", "0"), said("like", "a", "-1"), said("like", "a", "5"), said("pace", "1", "2", "3")),
		blockOf("service", "web", said("want", "1")),
		blockOf("team", "a", said("room", "5")),
		blockOf("team", "core", said("copies", "100"), said("room", "7")),
	)
}

// checkGot says which lines a key of a block of a sheet has.
func checkGot(t *testing.T, s sheet, kind, name, key string, want ...sheetLine) {
	t.Helper()
	s = spread(s)
	before := whole(s)
	lines, there := impl.SheetGet(s, kind, name, key)
	if !there || !same(lines, want) {
		t.Errorf("%s %s: %s is %q, %v, not %q", kind, name, key, lines, there, want)
	}
	again, _ := impl.SheetGet(s, kind, name, key)
	newMemory(t, key, lines, s, again)
	if !same(whole(s), before) {
		t.Errorf("%s %s: %s: the sheet is changed", kind, name, key)
	}
}

// checkNotGot says that there is nothing to be told.
func checkNotGot(t *testing.T, what string, s sheet, kind, name, key string) {
	t.Helper()
	s = spread(s)
	before := whole(s)
	if lines, there := impl.SheetGet(s, kind, name, key); there || len(lines) != 0 {
		t.Errorf("%s: %.100q %.100q: %.100q is %.600q, %v", what, kind, name, key, lines, there)
	}
	if !same(whole(s), before) {
		t.Errorf("%s: the sheet is changed", what)
	}
}

func TestSheetGetLines(t *testing.T) {
	s := getSheet()
	checkGot(t, s, "team", "a", "room", said("room", "5"))
	checkGot(t, s, "team", "core", "room", said("room", "7"))
	checkGot(t, s, "team", "core", "copies", said("copies", "100"))
	checkGot(t, s, "berth", "a", "zone", said("zone", "y"))
	checkGot(t, s, "berth", "a", "mark", said("mark", "l"), said("mark", "m"), said("mark", "z"))
	checkGot(t, s, "service", "a", "team", said("team", "dev"))
	checkGot(t, s, "service", "a", "needs", said("needs", "2", "3"))
	checkGot(t, s, "service", "a", "where", said("where", "x y"))
	checkGot(t, s, "service", "a", "like", said("like", "", "0"), said("like", "a", "-1"), said("like", "a", "5"))
	checkGot(t, s, "service", "a", "pace", said("pace", "1", "2", "3"))
	checkGot(t, s, "service", "web", "want", said("want", "1"))
}

func TestSheetGetDefaults(t *testing.T) {
	s := getSheet()
	checkGot(t, s, "team", "a", "copies", said("copies", "100"))
	checkGot(t, s, "berth", "a", "room", said("room", "100"))
	checkGot(t, s, "berth", "a", "hold", said("hold", "100"))
	checkGot(t, s, "berth", "b", "zone", said("zone", "z"))
	for key, words := range map[string]string{"team": "core", "image": "1", "want": "1", "down": "1", "over": "0", "needs": "1 1", "apart": "none", "volume": "no", "follow": "0 0 0", "pace": "0 0 0"} {
		checkGot(t, s, "service", "web", key, said(key, strings.Split(words, " ")...))
	}
	checkGot(t, s, "service", "web", "where", said("where", ""))
	checkGot(t, sheetOf(blockOf("team", "a")), "team", "a", "room", said("room", "1000"))
}

func TestSheetGetNoneOfMany(t *testing.T) {
	checkGot(t, getSheet(), "berth", "b", "mark")
	checkGot(t, getSheet(), "service", "web", "like")
	checkGot(t, sheetOf(blockOf("berth", "a", said("zone", "m"))), "berth", "a", "mark")
}

// As many lines as a key that is many may have.
func TestSheetGetTen(t *testing.T) {
	for kind, key := range map[string]string{"berth": "mark", "service": "like"} {
		for count := range 11 {
			checkGot(t, sheetOf(blockOf(kind, "a", manyLines(key, 2)...), blockOf(kind, "b", manyLines(key, count)...), blockOf(kind, "c", manyLines(key, 3)...)), kind, "b", key, manyLines(key, count)...)
		}
		checkNotGot(t, "eleven", sheetOf(blockOf(kind, "b", manyLines(key, 11)...)), kind, "b", key)
	}
}

// The first, the last and each other of sixty blocks.
func TestSheetGetOfSixty(t *testing.T) {
	for _, kind := range sheetKinds() {
		blocks := manyBlocks(kind, 60)
		rule := sheetTable()[kind][0]
		for i := range blocks {
			blocks[i].Lines = []sheetLine{said(rule.Key, sheetFitting(rule, i)...)}
		}
		for i, b := range blocks {
			checkGot(t, sheetOf(blocks...), kind, b.Name, rule.Key, said(rule.Key, sheetFitting(rule, i)...))
		}
		checkNotGot(t, "sixty-one", sheetOf(append(blocks, blockOf(kind, "z"))...), kind, "z", rule.Key)
	}
}

func TestSheetGetNoSuchBlock(t *testing.T) {
	for _, at := range []struct{ kind, name string }{
		{"team", "b"}, {"team", "web"}, {"berth", "core"}, {"berth", "web"}, {"service", "b"}, {"service", "core"}, {"team", ""}, {"team", "A"}, {"team", "a "}, {"team", " a"}, {"team", "aa"}, {"team", "cor"}, {"team", "core\n"}, {"team", "\x00"}, {"team", "\xff"}, {"team", "z"}, {"team", letters(1000)}, {"berth", "0"}, {"service", "team"},
	} {
		for _, rule := range sheetTable()[at.kind] {
			checkNotGot(t, "no such block", getSheet(), at.kind, at.name, rule.Key)
			checkNotGot(t, "no block at all", sheet{}, at.kind, at.name, rule.Key)
		}
	}
	for _, name := range append(sheetSamplesBy[3].fit, sheetSamplesBy[3].unfit...) {
		checkNotGot(t, "no such name", sheetOf(blockOf("team", "q", said("room", "5"))), "team", name, "room")
	}
}

func TestSheetGetNoSuchKind(t *testing.T) {
	for _, kind := range sheetOtherKinds() {
		for _, key := range []string{"room", "copies", "zone", "mark", "team", "", kind} {
			checkNotGot(t, "no such kind", getSheet(), kind, "a", key)
			checkNotGot(t, "no such kind, but such a block", sheetOf(blockOf(kind, "a", said(key, "5"))), kind, "a", key)
			checkNotGot(t, "no such kind, but such a block", sheetOf(blockOf(kind, "a")), kind, "a", key)
		}
	}
	checkNotGot(t, "nothing of nothing", sheet{}, "", "", "")
	checkNotGot(t, "nothing of a block of nothing", sheetOf(sheetBlock{}), "", "", "")
}

// Each key of each kind, asked of each kind: a key is told by just those that have it.
func TestSheetGetKeysOfOthers(t *testing.T) {
	s := getSheet()
	eachSheetRule(func(_ string, rule impl.SheetRule) {
		for _, kind := range sheetKinds() {
			if place, _ := sheetKey(kind, rule.Key); place < 0 {
				checkNotGot(t, "a key of another kind", s, kind, "a", rule.Key)
			} else {
				checkGetsOf(t, "a key", kind, "a", s)
			}
		}
		for _, kind := range sheetKinds() {
			for _, key := range []string{"", "end", "berth", "service", "a", strings.ToUpper(rule.Key), rule.Key + " ", " " + rule.Key, rule.Key + "s", rule.Key[1:], rule.Key + "\x00", rule.Key + "\n", letters(1000)} {
				if place, _ := sheetKey(kind, key); place < 0 {
					checkNotGot(t, "no such key", s, kind, "a", key)
				}
			}
		}
	})
	checkNotGot(t, "the key team of a team", s, "team", "a", "team")
	checkGot(t, s, "berth", "a", "room", said("room", "100"))
	checkGot(t, s, "team", "a", "room", said("room", "5"))
	checkNotGot(t, "room of a service", s, "service", "a", "room")
}

// Of a sheet that is not valid nothing is told, whichever of its blocks is asked for.
func TestSheetGetNotValid(t *testing.T) {
	for what, s := range sheetsNotValid() {
		blocks := slices.Concat(s.Blocks, []sheetBlock{blockOf("team", "a"), blockOf("team", "z"), blockOf("berth", "a")})
		for _, b := range blocks {
			for _, kind := range append(sheetKinds(), b.Kind) {
				for _, key := range []string{"room", "copies", "mark", "zip", "where", ""} {
					checkNotGot(t, what, s, kind, b.Name, key)
				}
			}
		}
	}
	good := blockOf("berth", "a", said("zone", "y"))
	for _, bad := range []sheetBlock{{}, blockOf("berth", "a"), blockOf("zone", "a"), blockOf("team", "A"), blockOf("team", "a", said("room", "x")), blockOf("team", "a", said("zip", "1")), blockOf("team", "a", said("room", "5"), said("copies", "5"))} {
		checkNotGot(t, "ahead of one that is not valid", sheetOf(good, bad), "berth", "a", "zone")
		checkNotGot(t, "a default, ahead of one that is not valid", sheetOf(good, bad), "berth", "a", "room")
	}
}
