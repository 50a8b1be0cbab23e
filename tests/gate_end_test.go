package tests

import (
	"fmt"
	"slices"
	"strconv"
	"strings"
	"testing"

	"loop.example/wharfdesk/impl"
)

// dockLaw has links of every role to both of its kinds, so that objects may hold, own and lean on one another in circles.
func dockLaw() impl.GateLaw {
	link := func(name, to string, role int) impl.GateField {
		return impl.GateField{Name: name, Kind: impl.GateLink, To: to, Role: role}
	}
	return impl.GateLaw{
		Shapes: []impl.GateShape{
			{Kind: "crate", Fields: []impl.GateField{
				{Name: "size", Kind: impl.GateNumber, Most: 99, Default: "1", Weighs: "load"},
				{Name: "tag", Kind: impl.GateText, Least: 1, Most: 4},
				link("on", "crate", impl.GateHolds),
				link("of", "node", impl.GateOwned),
				link("by", "crate", impl.GateLeans),
				link("to", "node", impl.GateLeans),
			}},
			{Kind: "node", Fields: []impl.GateField{
				link("on", "node", impl.GateHolds),
				link("in", "crate", impl.GateHolds),
				link("of", "node", impl.GateOwned),
				link("or", "crate", impl.GateOwned),
				link("by", "node", impl.GateLeans),
				link("to", "node", impl.GateLeans),
			}},
		},
		Mends: mendList{{Kind: "crate", Field: "size", When: "tag", Is: "big", Put: "50"}},
		Teams: fleetTeams(),
	}
}

// dockObject reads an object: its name, with `crate/` ahead if it is no node, and `!` behind if it is Ending; then, each where it is not as with most, `+hold`, `@team`, `vVERSION`, `field=value`.
func dockObject(text string) impl.GateObject {
	words := strings.Fields(text)
	o := impl.GateObject{Kind: "node", Team: "dev", Version: 1}
	o.Name, o.Ending = strings.CutSuffix(words[0], "!")
	if kind, name, found := strings.Cut(o.Name, "/"); found {
		o.Kind, o.Name = kind, name
	}
	fields := shapeOf(dockLaw().Shapes, o.Kind).Fields
	o.Values = make([]string, len(fields))
	for _, word := range words[1:] {
		name, value, _ := strings.Cut(word, "=")
		place := slices.IndexFunc(fields, func(f impl.GateField) bool { return f.Name == name })
		switch {
		case word[0] == '+':
			o.Holds = append(o.Holds, word[1:])
		case word[0] == '@':
			o.Team = word[1:]
		case place >= 0:
			o.Values[place] = value
		default:
			o.Version, _ = strconv.Atoi(word[1:])
		}
	}
	return impl.GateShaped(dockLaw().Shapes, dockLaw().Mends, o)
}

func dockBook(now int, texts ...string) impl.GateBook {
	b := impl.GateBook{Now: now}
	for _, text := range texts {
		b.Objects = append(b.Objects, dockObject(text))
	}
	return b
}

// toldNames are the names of the objects at some places, as dockObject reads them, but for the `!`.
func toldNames(b impl.GateBook, places []int) string {
	var list []string
	for _, place := range places {
		o := b.Objects[place]
		list = append(list, strings.TrimPrefix(o.Kind+"/"+o.Name, "node/"))
	}
	return strings.Join(list, " ")
}

type texts = []string

// endCase is a book's objects, in order, and what the three functions that answer places tell of them.
type endCase struct {
	what                  string
	objects               texts
	marked, going, doomed string
}

func endCases() []endCase {
	return []endCase{
		{"no objects", nil, "", "", ""},
		{"one that is not Ending", texts{"a"}, "", "", ""},
		{"one that is not Ending, with Holds", texts{"a +h"}, "", "", ""},
		{"an Ending one", texts{"a!"}, "", "a", "a"},
		{"an Ending one of the other kind", texts{"crate/a!"}, "", "crate/a", "crate/a"},
		{"an Ending one with Holds", texts{"a! +h"}, "", "", ""},
		{"an Ending one with as many Holds as there may be", texts{"a! +f +g +h"}, "", "", ""},
		{"with Holds and without", texts{"a!", "b! +h", "c!", "d"}, "", "a c", "a c"},

		{"owned by an Ending one", texts{"a!", "b of=a"}, "b", "", "a b"},
		{"owned by an Ending one behind it", texts{"a of=b", "b!"}, "a", "", "a b"},
		{"owned by one that is not Ending", texts{"a", "b of=a"}, "", "", ""},
		{"owned by an Ending one with Holds", texts{"a! +h", "b of=a"}, "b", "", "b"},
		{"Ending, owned by an Ending one", texts{"a!", "b! of=a"}, "", "a b", "a b"},
		{"Ending, owned by one that is not", texts{"a", "b! of=a"}, "", "b", "b"},
		{"Ending, owned by an Ending one with Holds", texts{"a! +h", "b! of=a"}, "", "b", "b"},
		{"with Holds, owned by an Ending one", texts{"a!", "b +h of=a"}, "b", "", ""},
		{"Ending, with Holds, owned by an Ending one", texts{"a!", "b! +h of=a"}, "", "", ""},
		{"owned by two Ending ones", texts{"crate/x!", "a!", "b of=a or=x"}, "b", "", "crate/x a b"},
		{"owned by two, the first one Ending", texts{"crate/x", "a!", "b of=a or=x"}, "b", "", "a b"},
		{"owned by two, the second one Ending", texts{"crate/x!", "a", "b of=a or=x"}, "b", "", "crate/x b"},
		{"owned by two, none Ending", texts{"crate/x", "a", "b of=a or=x"}, "", "", ""},
		{"several owned by an Ending one", texts{"crate/k of=c", "crate/m of=c", "b of=c", "c!", "d", "e of=c"}, "crate/k crate/m b e", "", "crate/k crate/m b c e"},
		{"owned by one that an Ending one owns", texts{"a!", "b of=a", "c of=b"}, "b", "", "a b c"},
		{"owned by one that an Ending one owns, the other way round", texts{"a of=b", "b of=c", "c!"}, "b", "", "a b c"},
		{"owned by what stays at the end of a chain", texts{"a!", "b of=a", "c +h of=b", "d of=c"}, "b", "", "d"},

		{"it holds an Ending one, no more", texts{"a!", "b on=a"}, "", "", ""},
		{"it holds an Ending one of the other kind", texts{"crate/a!", "b in=a"}, "", "", ""},
		{"it leans on an Ending one, no more", texts{"a!", "b by=a"}, "", "a", "a"},
		{"it leans on an Ending one twice", texts{"a!", "b by=a to=a"}, "", "a", "a"},
		{"an Ending one holds it", texts{"a", "b! on=a"}, "", "b", "b"},
		{"an Ending one with Holds holds it", texts{"a!", "b! +h on=a"}, "", "", ""},
		{"an Ending one leans on it", texts{"a", "b! by=a"}, "", "b", "b"},
		{"it holds an Ending one and leans on it", texts{"a!", "b on=a by=a"}, "", "", ""},
		{"it is owned by an Ending one, and holds it", texts{"a!", "b on=a of=a"}, "b", "", "a b"},
		{"it is owned by one Ending one, and holds another", texts{"a!", "b!", "c on=b of=a"}, "c", "", "a b c"},

		{"held by an Ending one", texts{"a!", "b! on=a"}, "", "a b", "a b"},
		{"held by an Ending one and by one that is not", texts{"a!", "b! on=a", "c on=a"}, "", "b", "b"},
		{"held by an Ending one that is held by one that is not", texts{"a!", "b! on=a", "c on=b"}, "", "", ""},
		{"the same, the other way round", texts{"a on=b", "b! on=c", "c!"}, "", "", ""},
		{"a chain of holding, with Holds at its end", texts{"a!", "b! on=a", "c! on=b", "d! +h on=c"}, "", "", ""},
		{"a chain of holding, with Holds in it", texts{"a!", "b! on=a", "c! +h on=b", "d! on=c"}, "", "d", "d"},
		{"a chain of owning, with Holds at its end", texts{"a!", "b! of=a", "c! of=b", "d! +h of=c"}, "", "", ""},
		{"a chain of owning, with Holds in it", texts{"a!", "b! of=a", "c! +h of=b", "d! of=c"}, "", "d", "d"},
		{"a chain of both kinds of links", texts{"crate/k! on=m", "crate/m! of=a", "a!", "b in=k"}, "", "", ""},
		{"kept by two", texts{"a!", "b! +h on=a", "c on=a"}, "", "", ""},
		{"a chain of leaning, one that is not Ending at its end", texts{"a!", "b! by=a", "c by=b"}, "", "a b", "a b"},

		{"two that hold each other", texts{"a! on=b", "b! on=a"}, "", "a b", "a b"},
		{"two that hold each other, one not Ending", texts{"a! on=b", "b on=a"}, "", "", ""},
		{"two that hold each other, one with Holds", texts{"a! on=b", "b! +h on=a"}, "", "", ""},
		{"three that hold one another", texts{"a! on=b", "b! on=c", "c! on=a"}, "", "a b c", "a b c"},
		{"three that hold one another, one not Ending", texts{"a! on=b", "b! on=c", "c on=a"}, "", "", ""},
		{"two that own each other", texts{"a! of=b", "b! of=a"}, "", "a b", "a b"},
		{"two that own each other, one not Ending", texts{"a! of=b", "b of=a"}, "b", "", "a b"},
		{"two that own each other, one not Ending, with Holds", texts{"a! of=b", "b +h of=a"}, "b", "", ""},
		{"two that own each other, none Ending", texts{"a of=b", "b of=a"}, "", "", ""},
		{"three that own one another", texts{"a! of=b", "b! of=c", "c! of=a"}, "", "a b c", "a b c"},
		{"three that own one another, one not Ending", texts{"a! of=b", "b! of=c", "c of=a"}, "c", "", "a b c"},
		{"three that own one another, two not Ending", texts{"a! of=b", "b of=c", "c of=a"}, "c", "", "a b c"},
		{"a circle of both kinds of links", texts{"crate/k! of=a", "a! in=k"}, "", "crate/k a", "crate/k a"},
		{"a circle that one outside holds", texts{"a! on=b", "b! on=a", "c on=b"}, "", "", ""},
		{"a circle that holds one outside", texts{"crate/k", "a! in=k on=b", "b! on=a"}, "", "a b", "a b"},
		{"a circle that owns one outside", texts{"crate/k of=a", "a! on=b", "b! on=a"}, "crate/k", "", "crate/k a b"},
		{"two circles, one of them with Holds", texts{"a! on=b", "b! on=a", "c! on=d", "d! +h on=c"}, "", "a b", "a b"},
		{"two circles, the one that stays leaning on the other", texts{"a! on=b", "b! on=a", "c! on=d by=a", "d! +h on=c to=b"}, "", "a b", "a b"},
		{"two circles, the one that stays holding the other", texts{"crate/k! of=a", "a! in=k", "b! on=a of=c", "c! +h of=b"}, "", "", ""},
		{"a circle that leans", texts{"a! by=b", "b by=a"}, "", "a", "a"},

		{"itself by all links", texts{"a! on=a of=a by=a to=a"}, "", "a", "a"},
		{"itself by all links, with Holds", texts{"a! +h on=a of=a by=a to=a"}, "", "", ""},
		{"itself by all links, not Ending", texts{"a on=a of=a by=a to=a"}, "", "", ""},

		{"owned by one of the other kind, that of the same name Ending", texts{"crate/x", "b or=x", "x!"}, "", "x", "x"},
		{"owned by that of its kind, the one of the same name not Ending", texts{"crate/x", "b of=x", "x!"}, "b", "", "b x"},
		{"it holds one of the other kind, that of the same name Ending", texts{"crate/x", "b in=x", "x!"}, "", "x", "x"},
		{"it holds that of its kind", texts{"crate/x!", "b on=x", "x!"}, "", "crate/x", "crate/x"},
		{"held by its namesake, with Holds", texts{"crate/x! +h", "x! in=x"}, "", "x", "x"},
		{"owned by its namesake, with Holds", texts{"crate/x! of=x", "x! +h"}, "", "crate/x", "crate/x"},
	}
}

func checkPlaces(t *testing.T, what string, b impl.GateBook, places []int, want string) {
	t.Helper()
	for i, place := range places {
		if place < 0 || place >= len(b.Objects) || i > 0 && places[i-1] >= place {
			t.Errorf("%s: %v are no ascending places", what, places)
			return
		}
	}
	if got := toldNames(b, places); got != want {
		t.Errorf("%s: %q, not %q", what, got, want)
	}
}

func TestGateEndsAsPlaces(t *testing.T) {
	for _, c := range endCases() {
		l, b := spread(dockLaw()), spread(dockBook(9, c.objects...))
		if !impl.GateBookOk(l, b) {
			t.Fatalf("%s: the book is not ok", c.what)
		}
		aheadLaw, aheadBook := whole(l), whole(b)
		for _, f := range []struct {
			name string
			call func(impl.GateLaw, impl.GateBook) []int
			want string
		}{{"GateMark", impl.GateMark, c.marked}, {"GateGoing", impl.GateGoing, c.going}, {"GateDoomed", impl.GateDoomed, c.doomed}} {
			got := f.call(l, b)
			checkPlaces(t, c.what+": "+f.name, b, got, f.want)
			newMemory(t, c.what+": "+f.name, got, l, b)
			if !same(whole(l), aheadLaw) || !same(whole(b), aheadBook) {
				t.Errorf("%s: %s changes an argument", c.what, f.name)
			}
		}
	}
}

// longChain is of as many objects as there may be, each linked to the next one, or to the one ahead of it.
func longChain(field string, onwards bool) texts {
	list := texts{}
	for i := range impl.GateMaxObjects {
		next := i - 1
		if onwards {
			next = i + 1
		}
		text := fmt.Sprintf("n%02d!", i)
		if next >= 0 && next < impl.GateMaxObjects {
			text += fmt.Sprintf(" %s=n%02d", field, next)
		}
		list = append(list, text)
	}
	return list
}

func TestGateEndsOfLongChains(t *testing.T) {
	last := impl.GateMaxObjects - 1
	for _, onwards := range []bool{false, true} {
		for _, field := range []string{"on", "of"} {
			what := fmt.Sprint(field, " ", onwards)
			// What the end keeps back is the whole chain: it is linked to all others, one by one.
			end, far := last, 0
			if onwards {
				end, far = 0, last
			}
			check := func(edit func(b book), going, doomed int) {
				t.Helper()
				b := dockBook(9, longChain(field, onwards)...)
				edit(&b)
				if got := impl.GateGoing(dockLaw(), b); len(got) != going {
					t.Errorf("%s: %v go, not %d", what, got, going)
				}
				if got := impl.GateDoomed(dockLaw(), b); len(got) != doomed {
					t.Errorf("%s: %v are doomed, not %d", what, got, doomed)
				}
			}
			check(func(b book) {}, 40, 40)
			check(func(b book) { b.Objects[end].Holds = texts{"h"} }, 0, 0)
			check(func(b book) { b.Objects[far].Holds = texts{"h"} }, 39, 39)
			if field == "on" {
				check(func(b book) { b.Objects[end].Ending = false }, 0, 0)
				check(func(b book) { b.Objects[far].Ending = false }, 39, 39)
			} else {
				check(func(b book) { b.Objects[end].Ending = false }, 0, 40)
				check(func(b book) { b.Objects[far].Ending = false }, 39, 39)
			}
		}
	}
}

// Only one is Ending, and all others are owned by it, through one another: each sweep goes a step further.
func TestGateSweepsOfALongChain(t *testing.T) {
	for _, onwards := range []bool{false, true} {
		b := dockBook(9, longChain("of", onwards)...)
		for i := range b.Objects {
			b.Objects[i].Ending = false
		}
		first, step := 0, 1
		if onwards {
			first, step = impl.GateMaxObjects-1, -1
		}
		b.Objects[first].Ending = true
		if got := impl.GateDoomed(dockLaw(), b); len(got) != impl.GateMaxObjects {
			t.Fatalf("%v are doomed", got)
		}
		for i := 1; i < impl.GateMaxObjects; i++ {
			if got := impl.GateMark(dockLaw(), b); !slices.Equal(got, []int{first + i*step}) {
				t.Fatalf("sweep %d: %v are marked", i, got)
			}
			if got := impl.GateGoing(dockLaw(), b); len(got) != 0 {
				t.Fatalf("sweep %d: %v go", i, got)
			}
			next, code := impl.GateSweep(dockLaw(), b)
			if code != 0 || next.Now != 9+i {
				t.Fatalf("sweep %d: %d, %+v", i, code, next)
			}
			b = next
		}
		if len(b.Objects) != 0 {
			t.Errorf("%d are there", len(b.Objects))
		}
		if _, code := impl.GateSweep(dockLaw(), b); code != 2 {
			t.Error(code)
		}
	}
}

// sweepCase is a book's Now and objects, and what they are behind a sweep; with a code they are the same.
type sweepCase struct {
	what    string
	code    int
	now     int
	objects texts
	then    int
	left    texts
}

func checkSweeps(t *testing.T, list []sweepCase) {
	t.Helper()
	for _, c := range list {
		l, b := spread(dockLaw()), spread(dockBook(c.now, c.objects...))
		if !impl.GateBookOk(l, b) {
			t.Fatalf("%s: the book is not ok", c.what)
		}
		want := dockBook(c.then, c.left...)
		if c.code != 0 {
			want = dockBook(c.now, c.objects...)
		}
		aheadLaw, aheadBook := whole(l), whole(b)
		got, code := impl.GateSweep(l, b)
		if code != c.code || !same(got, want) {
			t.Errorf("%s: %d and %+v, not %d and %+v", c.what, code, got, c.code, want)
		}
		if !impl.GateBookOk(l, got) || !bookIsOk(l, got) {
			t.Errorf("%s: the book behind it is not ok", c.what)
		}
		if !same(whole(l), aheadLaw) || !same(whole(b), aheadBook) {
			t.Errorf("%s: an argument is changed", c.what)
		}
		newMemory(t, c.what, got, l, b)
	}
}

func TestGateSweep(t *testing.T) {
	checkSweeps(t, []sweepCase{
		{"one goes", 0, 9, texts{"a!"}, 9, nil},
		{"one of several goes", 0, 9, texts{"crate/a", "a!", "b! +h", "c"}, 9, texts{"crate/a", "b! +h", "c"}},
		{"the first and the last go", 0, 9, texts{"crate/a!", "a", "b", "c!"}, 9, texts{"a", "b"}},
		{"a circle goes", 0, 9, texts{"a! on=c", "b", "c! of=a"}, 9, texts{"b"}},
		{"a circle with one that is not Ending stays", 2, 9, texts{"a! on=b", "b on=a"}, 0, nil},

		{"one becomes Ending", 0, 9, texts{"a! +h", "b +h of=a"}, 10, texts{"a! +h", "b! +h of=a v10"}},
		{"one becomes Ending, no more of it", 0, 9, texts{"a! +h", "b +h @lab of=a on=c by=c", "c"}, 10, texts{"a! +h", "b! +h @lab of=a on=c by=c v10", "c"}},
		{"several become Ending, in order", 0, 9, texts{"crate/k of=b tag=x", "a +h of=b", "b! +h", "c", "d +h of=b"}, 12,
			texts{"a! +h of=b v11", "b! +h", "c", "d! +h of=b v12"}},
		{"what is owned by one that becomes Ending is for the next sweep", 0, 9, texts{"a!", "b of=a", "c of=b"}, 10, texts{"a!", "b! of=a v10", "c of=b"}},
		{"so it is where it stands ahead", 0, 9, texts{"a of=b", "b of=c", "c!"}, 10, texts{"a of=b", "b! of=c v10", "c!"}},

		{"one becomes Ending and goes", 0, 9, texts{"a! +h", "b of=a"}, 10, texts{"a! +h"}},
		{"one becomes Ending and goes, with its owner", 0, 9, texts{"a!", "b of=a"}, 10, nil},
		{"one becomes Ending, and lets another one go, which it holds", 0, 9, texts{"crate/x!", "a! +h", "b in=x of=a"}, 10, texts{"a! +h"}},
		{"one becomes Ending and closes a circle", 0, 9, texts{"a! on=b", "b of=a"}, 10, nil},
		{"one becomes Ending and goes, another one becomes Ending and stays", 0, 9, texts{"a! +h", "b +h of=a", "c of=a"}, 11, texts{"a! +h", "b! +h of=a v10"}},
		{"one becomes Ending and is kept by one that is not", 0, 9, texts{"a!", "b of=a", "c on=b"}, 10, texts{"a!", "b! of=a v10", "c on=b"}},

		{"one that leaned", 0, 9, texts{"a!", "b by=a"}, 10, texts{"b v10"}},
		{"one that leaned, ahead", 0, 9, texts{"a to=b", "b!"}, 10, texts{"a v10"}},
		{"several that leaned, in order", 0, 9, texts{"crate/k to=b", "a by=b", "b!", "c", "d to=b"}, 12, texts{"crate/k v10", "a v11", "c", "d v12"}},
		{"two links to one that is gone", 0, 9, texts{"a!", "b by=a to=a"}, 10, texts{"b v10"}},
		{"links to two that are gone", 0, 9, texts{"a!", "b by=c to=a", "c!"}, 10, texts{"b v10"}},
		{"the first of two links", 0, 9, texts{"a!", "b by=a to=c", "c! +h"}, 10, texts{"b to=c v10", "c! +h"}},
		{"the second of two links", 0, 9, texts{"a!", "b by=c to=a", "c"}, 10, texts{"b by=c v10", "c"}},
		{"links to what stays", 0, 9, texts{"a!", "b by=c to=d", "c! +h", "d"}, 9, texts{"b by=c to=d", "c! +h", "d"}},
		{"links of all roles beside it", 0, 9, texts{"crate/k", "a", "b on=a in=k of=a or=k by=c to=a", "c!"}, 10, texts{"crate/k", "a", "b on=a in=k of=a or=k to=a v10"}},
		{"no link of another role is emptied", 0, 9, texts{"crate/k! +h", "a! +h", "b! on=a in=k of=a or=k +h by=c", "c!"}, 10, texts{"crate/k! +h", "a! +h", "b! +h on=a in=k of=a or=k v10"}},
		{"values beside it", 0, 9, texts{"crate/k @yard tag=big by=m to=a", "crate/m!", "a!"}, 10, texts{"crate/k @yard tag=big v10"}},
		{"an Ending one that stays leaned", 0, 9, texts{"a!", "b! +h by=a"}, 10, texts{"b! +h v10"}},
		{"one that leaned on itself goes", 0, 9, texts{"a! by=a"}, 9, nil},
		{"one that leaned on one that goes with it", 0, 9, texts{"a! by=b", "b! by=a"}, 9, nil},
		{"it leaned on the one of the other kind", 0, 9, texts{"crate/a!", "crate/k by=a to=a", "a"}, 10, texts{"crate/k to=a v10", "a"}},
		{"it leaned on the one of its kind alone", 0, 9, texts{"crate/a", "crate/k by=a to=a", "a!"}, 10, texts{"crate/a", "crate/k by=a v10"}},
		{"it leaned on one that becomes Ending and goes", 0, 9, texts{"a! +h", "b of=a", "c by=b to=a"}, 11, texts{"a! +h", "c to=a v11"}},

		{"those that become Ending first, then those that leaned", 0, 9, texts{"a! +h", "b +h of=a", "c by=e", "d +h of=a", "e!", "f to=e"}, 13,
			texts{"a! +h", "b! +h of=a v10", "c v12", "d! +h of=a v11", "f v13"}},
		{"one that becomes Ending and leaned has two versions", 0, 9, texts{"a! +h", "b +h of=a by=e", "c +h of=a", "e!"}, 12,
			texts{"a! +h", "b! +h of=a v12", "c! +h of=a v11"}},
	})
}

func TestGateSweepCodes(t *testing.T) {
	most := impl.GateMaxVersion
	marks := texts{"a! +h", "b +h of=a", "c +h of=a"}
	leans := texts{"a!", "b by=a", "c to=a"}
	both := texts{"a! +h", "b +h of=a", "c by=d", "d!"}
	checkSweeps(t, []sweepCase{
		{"no objects", 2, 9, nil, 0, nil},
		{"no objects, from the first version", 2, 0, nil, 0, nil},
		{"none is Ending", 2, 9, texts{"crate/a", "a on=b by=b", "b of=a"}, 0, nil},
		{"one is Ending, with Holds", 2, 9, texts{"a! +h", "b by=a on=a"}, 0, nil},
		{"one is Ending, and held", 2, 9, texts{"a!", "b on=a"}, 0, nil},
		{"one is Ending, and owns an Ending one with Holds", 2, 9, texts{"a!", "b! +h of=a"}, 0, nil},

		{"none is marked, but one goes", 0, 9, texts{"a!"}, 9, nil},
		{"none goes, but one is marked", 0, 9, texts{"a!", "b +h of=a"}, 10, texts{"a!", "b! +h of=a v10"}},

		{"the last versions for those that become Ending", 0, most - 2, marks, most, texts{"a! +h", "b! +h of=a v999999", "c! +h of=a v1000000"}},
		{"one version too few for those that become Ending", 3, most - 1, marks, 0, nil},
		{"no version for those that become Ending", 3, most, marks, 0, nil},
		{"the last versions for those that leaned", 0, most - 2, leans, most, texts{"b v999999", "c v1000000"}},
		{"one version too few for those that leaned", 3, most - 1, leans, 0, nil},
		{"no version for those that leaned", 3, most, leans, 0, nil},
		{"the last versions for both", 0, most - 2, both, most, texts{"a! +h", "b! +h of=a v999999", "c v1000000"}},
		{"one version too few for both", 3, most - 1, both, 0, nil},
		{"the last version for one that becomes Ending and goes", 0, most - 1, texts{"a!", "b of=a"}, most, nil},
		{"no version for one that becomes Ending and goes", 3, most, texts{"a!", "b of=a"}, 0, nil},
		{"one version too few for one that becomes Ending and leaned", 3, most - 1, texts{"a! +h", "b +h of=a by=c", "c!"}, 0, nil},
		{"the last version for two links of one that leaned", 0, most - 1, texts{"a!", "b by=a to=c", "c!"}, most, texts{"b v1000000"}},
		{"one goes, and there is no version to give", 0, most, texts{"a!", "b by=c", "c v1000000"}, most, texts{"b by=c", "c v1000000"}},

		{"2 ahead of 3: nothing to do at the last version", 2, most, texts{"a! +h", "b by=a"}, 0, nil},
	})
}

// 1 stands ahead of all, and tells nothing of the book; the others do not tell of what is not ok.
func TestGateEndsOfWhatIsNotOk(t *testing.T) {
	check := func(what string, l impl.GateLaw, b impl.GateBook) {
		t.Helper()
		if got, code := impl.GateSweep(l, b); code != 1 || !same(got, impl.GateBook{}) {
			t.Errorf("%s: GateSweep is %d and %+v", what, code, got)
		}
		for name, call := range map[string]func(impl.GateLaw, impl.GateBook) []int{"GateMark": impl.GateMark, "GateGoing": impl.GateGoing, "GateDoomed": impl.GateDoomed} {
			if got := call(l, b); len(got) != 0 {
				t.Errorf("%s: %s is %v", what, name, got)
			}
		}
	}
	endingBook := func() impl.GateBook {
		b := fleetBook()
		b.Objects[2].Ending, b.Objects[4].Holds = true, nil
		return b
	}
	if l, b := fleetLaw(), endingBook(); len(impl.GateMark(l, b)) != 1 || len(impl.GateGoing(l, b)) != 1 || len(impl.GateDoomed(l, b)) != 3 {
		t.Error("nothing is told of the book that is ok")
	}
	for what, l := range badLaws() {
		check(what, l, endingBook())
		check(what+", an empty book", l, impl.GateBook{})
		check(what+", at the last version", l, impl.GateBook{Now: impl.GateMaxVersion})
	}
	for what, edit := range map[string]func(b book){
		"Now":              func(b book) { b.Now = -1 },
		"Now too great":    func(b book) { b.Now = impl.GateMaxVersion + 1 },
		"Tick":             func(b book) { b.Tick = 4 },
		"Given":            func(b book) { b.Given = 6 },
		"a value":          func(b book) { b.Objects[0].Values[0] = "0" },
		"too few values":   func(b book) { b.Objects[2].Values = b.Objects[2].Values[:3] },
		"no values":        func(b book) { b.Objects[2].Values = nil },
		"a Kind":           func(b book) { b.Objects[2].Kind = "jab" },
		"a Team":           func(b book) { b.Objects[2].Team = "ghost" },
		"a Version":        func(b book) { b.Objects[2].Version = 21 },
		"Holds":            func(b book) { b.Objects[4].Holds = texts{"b", "a"} },
		"objects' order":   func(b book) { slices.Reverse(b.Objects) },
		"an object twice":  func(b book) { b.Objects[3] = b.Objects[2] },
		"too many objects": func(b book) { manyBerths(b, impl.GateMaxObjects+1) },
		"a holding link":   func(b book) { b.Objects[2].Values[3] = "b-9" },
		"an owning link":   func(b book) { b.Objects[3].Values[4] = "j-9" },
		"a leaning link":   func(b book) { b.Objects[3].Values[5] = "b-1" },
		"a grant":          func(b book) { b.Grants[0].To = "" },
		"a sum":            func(b book) { b.Ledgers[1].Free++ },
		"a ledger":         func(b book) { b.Ledgers[2].Team = "ghost" },
		"a purse":          func(b book) { b.Purses[1].Until = 16 },
		"without ledgers":  func(b book) { b.Ledgers = nil },
	} {
		b := endingBook()
		edit(&b)
		check(what, fleetLaw(), b)
	}
}

// What is gone goes to the Free of the ledgers of its own team and of each team over it, by what it weighed, and nowhere else.
func TestGateSweepFreesWhatItWeighed(t *testing.T) {
	ledgers := func(free ...int) []impl.GateLedger {
		list := []impl.GateLedger{
			{Team: "dev", Resource: "crate"}, {Team: "dev", Resource: "load"}, {Team: "dev", Resource: "node"}, {Team: "dev", Resource: "tar"},
			{Team: "lab", Resource: "crate"}, {Team: "lab", Resource: "load"},
			{Team: "ops", Resource: "crate"}, {Team: "ops", Resource: "load"},
			{Team: "yard", Resource: "crate"}, {Team: "yard", Resource: "load"},
		}
		for i := range list {
			list[i].Most, list[i].Free = 200, free[i]
		}
		return list
	}
	stay := texts{"crate/s @yard size=3", "crate/t @ops size=2"}
	none := []int{199, 197, 200, 200, 199, 197, 199, 198, 199, 197}
	for _, c := range []struct {
		what string
		gone texts
		// By how much each ledger's Free has more behind the sweep.
		more [10]int
	}{
		{"a crate of dev", texts{"crate/a! size=7"}, [10]int{1, 7}},
		{"a crate of lab", texts{"crate/a! @lab size=7"}, [10]int{1, 7, 0, 0, 1, 7}},
		{"a crate of yard", texts{"crate/a! @yard size=7"}, [10]int{1, 7, 0, 0, 1, 7, 0, 0, 1, 7}},
		{"a crate of ops", texts{"crate/a! @ops size=7"}, [10]int{0, 0, 0, 0, 0, 0, 1, 7}},
		{"a crate of 0", texts{"crate/a! @lab size=0"}, [10]int{1, 0, 0, 0, 1}},
		{"a crate of what a mend puts", texts{"crate/a! @lab tag=big"}, [10]int{1, 50, 0, 0, 1, 50}},
		{"a node of yard", texts{"z! @yard"}, [10]int{0, 0, 1}},
		{"a node of ops", texts{"z! @ops"}, [10]int{}},
		{"two that go together", texts{"crate/a! @ops size=7 on=b", "crate/b! @lab size=5 on=a"}, [10]int{1, 5, 0, 0, 1, 5, 1, 7}},
		{"one that becomes Ending and goes", texts{"crate/a @yard size=9 of=z", "z!"}, [10]int{1, 9, 1, 0, 1, 9, 0, 0, 1, 9}},
	} {
		b := dockBook(9, append(slices.Clone(c.gone), stay...)...)
		b.Tick, b.Given = 4, 3
		b.Grants = []impl.GateGrant{{Number: 2, To: "ann", By: "bob", Rule: rule("x", 1, 5)}}
		b.Purses = []impl.GatePurse{{Door: "d-1", Team: "dev", Resource: "load", Amount: 20, Until: 5}, {Door: "d-2", Team: "yard", Resource: "load", Amount: 1, Until: 14}}
		inOrder(&b)
		want := b
		want.Objects = dockBook(9, stay...).Objects
		if len(impl.GateMark(dockLaw(), impl.GateBook{Now: 9, Objects: b.Objects})) > 0 {
			want.Now++
		}
		want.Ledgers = ledgers(none...)
		want.Ledgers[1].Free -= 20
		want.Ledgers[9].Free--
		b.Ledgers = slices.Clone(want.Ledgers)
		for i := range b.Ledgers {
			b.Ledgers[i].Free -= c.more[i]
		}
		if !impl.GateBookOk(dockLaw(), b) {
			t.Fatalf("%s: the book is not ok: %+v", c.what, b)
		}
		got, code := impl.GateSweep(dockLaw(), b)
		if code != 0 || !same(got, want) {
			t.Errorf("%s: %d and %+v, not %+v", c.what, code, got, want)
		}
		newMemory(t, c.what, got, b)
	}
}

// As many teams as there may be over one: each of them gets what is gone, the one beside them does not.
func TestGateSweepFreesInAllTeamsOver(t *testing.T) {
	l := dockLaw()
	l.Teams = chain(impl.GateMaxDeep + 1)
	l.Teams = append(l.Teams, impl.GateTeam{Name: "x", Over: "d"})
	b := dockBook(9, "crate/k! @e size=6")
	for _, team := range l.Teams {
		b.Ledgers = append(b.Ledgers, impl.GateLedger{Team: team.Name, Resource: "load", Most: 8})
	}
	settle(l, &b)
	got, code := impl.GateSweep(l, b)
	if code != 0 || len(got.Ledgers) != 6 {
		t.Fatalf("%d and %+v", code, got)
	}
	for i, ledger := range got.Ledgers {
		if ledger.Free != 8 || (b.Ledgers[i].Free == 8) != (ledger.Team == "x") {
			t.Errorf("%+v became %+v", b.Ledgers[i], ledger)
		}
	}
}

// With all that a book has: what the sweep does not speak of is as it was.
func TestGateSweepOfTheFleet(t *testing.T) {
	l, b, want := fleetLaw(), fleetBook(), fleetBook()
	b.Objects[2].Ending = true
	b.Objects[4].Values[5] = "j-2"
	want.Now = 22
	want.Objects = slices.Delete(want.Objects, 2, 4)
	want.Objects[2].Values[5], want.Objects[2].Version = "", 22
	want.Ledgers[0].Free, want.Ledgers[1].Free, want.Ledgers[2].Free = 4, 23, 13
	got, code := impl.GateSweep(spread(l), spread(b))
	if code != 0 || !same(got, want) {
		t.Errorf("%d and %+v, not %+v", code, got, want)
	}
	b.Now = impl.GateMaxVersion - 1
	if got, code := impl.GateSweep(l, b); code != 3 || !same(got, b) {
		t.Errorf("%d and %+v", code, got)
	}
	if got, code := impl.GateSweep(l, fleetBook()); code != 2 || !same(got, fleetBook()) {
		t.Errorf("%d and %+v", code, got)
	}
}

// What a caller does to an answer, or to an argument behind the call, is not seen in the other one.
func TestGateSweepSharesNothing(t *testing.T) {
	for code, edit := range map[int]func(b book){
		0: func(b book) { b.Objects[2].Ending = true },
		2: func(b book) {},
		3: func(b book) { b.Objects[2].Ending = true; b.Now = impl.GateMaxVersion },
	} {
		made := func() impl.GateBook {
			b := fleetBook()
			edit(&b)
			return b
		}
		l, b := fleetLaw(), made()
		got, told := impl.GateSweep(l, b)
		want, _ := impl.GateSweep(fleetLaw(), made())
		wipe(&b)
		if told != code || !same(got, want) {
			t.Errorf("%d: the answer changes with the argument", told)
		}
		b = made()
		got, _ = impl.GateSweep(l, b)
		wipe(&got)
		if !same(b, made()) || !same(l, fleetLaw()) {
			t.Errorf("%d: an argument changes with the answer", told)
		}
	}
}
