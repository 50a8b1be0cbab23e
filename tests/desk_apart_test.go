package tests

import (
	"fmt"
	"slices"
	"strconv"
	"strings"
	"testing"

	"loop.example/wharfdesk/impl"
)

// deskAreApart is the document's sentence on when desks are.
func deskAreApart(list []desk) bool {
	for i, a := range list {
		for k, b := range list {
			begins := len(a.Prefix) <= len(b.Prefix) && b.Prefix[:len(a.Prefix)] == a.Prefix
			if i != k && (begins || a.Door == b.Door) {
				return false
			}
		}
	}
	return len(list) <= 4 && all(list, deskIsOk)
}

// checkApart says whether desks are apart, and that they stay as they are.
func checkApart(t *testing.T, what string, list []desk, want bool) {
	t.Helper()
	list = spread(list)
	before := whole(list)
	if got := impl.DeskApart(list); got != want || deskAreApart(list) != want {
		t.Errorf("%s: apart: %v, read: %v", what, got, deskAreApart(list))
	}
	if !same(whole(list), before) {
		t.Errorf("%s: the desks are changed", what)
	}
}

// desksOf are ann's desks, with a door each.
func desksOf(prefixes ...string) []desk {
	var list []desk
	for i, prefix := range prefixes {
		list = append(list, desk{Who: "ann", Door: "d" + strconv.Itoa(1+i), Prefix: prefix})
	}
	return list
}

func TestDeskApart(t *testing.T) {
	checkApart(t, "no desk", nil, true)
	for _, prefix := range []string{"", "a", "-", "0", letters(16)} {
		checkApart(t, "one desk of "+prefix, desksOf(prefix), true)
	}
	all := strings.Split("abcdefghijklmnopqrstuvwxyz", "")
	for many := range 21 {
		checkApart(t, fmt.Sprint(many, " desks"), desksOf(all[:many]...), many <= impl.DeskMaxDesks)
	}
	four := desksOf("a-", "ab", "b", "web")
	checkApart(t, "four", four, true)
	for _, order := range [][]int{{3, 2, 1, 0}, {1, 3, 0, 2}, {2, 0, 3, 1}} {
		var turned []desk
		for _, at := range order {
			turned = append(turned, four[at])
		}
		checkApart(t, "in another order", turned, true)
	}
	// Neither who sits there nor what lies there counts, as long as somebody does.
	for i := range four {
		four[i].Who, four[i].Text = []string{"ann", "bob", "ann", letters(16)}[i], []string{"end\n", deskText("b dev 1,1,0,1,,"), "", "\xff"}[i]
	}
	checkApart(t, "of several", four, true)
}

// One of them is not ok, wherever it is.
func TestDeskApartNotOk(t *testing.T) {
	for what, turn := range map[string]func(d *desk){
		"no Who":                func(d *desk) { d.Who = "" },
		"a Who that is none":    func(d *desk) { d.Who = "Ann" },
		"a Who too long":        func(d *desk) { d.Who = letters(17) },
		"no Door":               func(d *desk) { d.Door = "" },
		"a Door that is none":   func(d *desk) { d.Door = "d_1" },
		"a Door too long":       func(d *desk) { d.Door = letters(17) },
		"a Prefix that is none": func(d *desk) { d.Prefix = "A" },
		"a Prefix of a space":   func(d *desk) { d.Prefix = " " },
		"a Prefix too long":     func(d *desk) { d.Prefix = "z" + letters(16) },
		"nothing":               func(d *desk) { *d = desk{} },
	} {
		for many := 1; many <= 4; many++ {
			for at := range many {
				list := desksOf("a", "b", "c", "d")[:many]
				turn(&list[at])
				checkApart(t, fmt.Sprintf("%s, at %d of %d", what, at, many), list, false)
			}
		}
	}
}

func TestDeskApartOneDoor(t *testing.T) {
	for one := range 4 {
		for other := range 4 {
			list := desksOf("a", "b", "c", "d")
			list[one].Door = list[other].Door
			checkApart(t, fmt.Sprintf("%d has the door of %d", one, other), list, one == other)
		}
	}
	near := desksOf("a", "b")
	near[0].Door, near[1].Door = "d", "d1"
	checkApart(t, "a door that begins another one", near, true)
	crossed := desksOf("a", "b")
	crossed[0].Door, crossed[1].Door = "b", "a"
	checkApart(t, "doors as the other's Prefix", crossed, true)
}

func TestDeskApartPrefixes(t *testing.T) {
	for _, c := range []struct {
		one, other string
		apart      bool
	}{
		{"a", "a", false}, {"", "", false}, {"", "a", false}, {"a", "ab", false}, {"a", "abc", false}, {"a", "a-", false}, {"web", "web-1", false},
		{letters(15), letters(16), false}, {letters(16), letters(16), false}, {"-", "--", false},
		{"a", "b", true}, {"ab", "ba", true}, {"a-", "ab", true}, {"ab", "ac", true}, {"ba", "a", true}, {"aab", "ab", true}, {letters(15) + "b", letters(16), true},
	} {
		for one := range 4 {
			for other := range 4 {
				if one == other {
					continue
				}
				list := desksOf("w", "x", "y", "z")
				list[one].Prefix, list[other].Prefix = c.one, c.other
				rest := slices.DeleteFunc(slices.Clone(list), func(d desk) bool {
					return d.Prefix >= "w" && d.Prefix <= "z" && d.Prefix != c.one && d.Prefix != c.other
				})
				what := fmt.Sprintf("%q at %d, %q at %d", c.one, one, c.other, other)
				checkApart(t, what, rest, c.apart)
				if c.one != "" && c.one != "web" {
					checkApart(t, what+", among four", list, c.apart)
				}
			}
		}
	}
}

// All lists of up to four desks, of some prefixes and doors.
func TestDeskApartAllMixes(t *testing.T) {
	var kinds []desk
	for _, prefix := range []string{"", "a", "ab", "b", "c"} {
		for _, door := range []string{"d1", "d2", "d3"} {
			kinds = append(kinds, desk{Who: "ann", Door: door, Prefix: prefix})
		}
	}
	apart := 0
	var grow func(list []desk)
	grow = func(list []desk) {
		want := deskAreApart(list)
		if impl.DeskApart(list) != want {
			t.Fatalf("%+v: apart: %v", list, !want)
		}
		if want {
			apart++
		}
		if len(list) < 4 {
			for _, d := range kinds {
				grow(append(slices.Clone(list), d))
			}
		}
	}
	grow(nil)
	if apart != 1+15+2*5*6+6*2*6 {
		t.Errorf("%d lists are apart", apart)
	}
}
