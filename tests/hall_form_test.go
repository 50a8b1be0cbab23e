package tests

import (
	"math"
	"reflect"
	"slices"
	"strconv"
	"strings"
	"testing"

	"loop.example/wharfdesk/impl"
)

type (
	entry      = impl.HallEntry
	gateRule   = impl.GateRule
	seaEvent   = impl.StewEvent
	stewardAct = impl.StewAct
)

// hallSample is an entry with its form, and the parts that are written in it.
type hallSample struct {
	form    string
	entry   entry
	written string
}

// hallAsked is an entry of a slip, through the door d1, of Who ann.
func hallAsked(number int, a ask, wants ...want) entry {
	a.Who = "ann"
	return entry{Kind: 1, Number: number, Slip: slip{Door: "d1", Ask: a, Given: 3, Wants: wants}}
}

func hallActed(number int, a stewardAct) entry {
	return entry{Kind: 7, Number: number, Act: a}
}

func hallAtSea(number int, e seaEvent) entry {
	return entry{Kind: 8, Number: number, Sea: e}
}

const (
	hallSlipParts = "Slip.Door Slip.Given Slip.Wants Slip.Ask.Who Slip.Ask.Verb "
	hallActParts  = "Act.Service Act.Seen Act.Create Act.Scale Act.Ends Act.Drop"
)

// hallSamples have every Kind, every Verb and every Kind of Sea.
func hallSamples() []hallSample {
	make6 := ask{Verb: 1, Kind: "service", Name: "web", Team: "dev", Holds: []string{"fleet"}, Values: []string{"1", "2", "", "1", "", ""}}
	change := ask{Verb: 2, Kind: "service", Name: "web", Seen: 4, Values: []string{"1", "2", "0", "1", "9", "db"}}
	give := ask{Verb: 5, To: "bob", Rule: gateRule{Verbs: []int{1, 4, 5}, Kind: "service", Team: "lab", Prefix: "w-"}}
	ends := []impl.StewEnd{{Number: 1, Seen: 4}, {Number: 2, Seen: 5}}
	named := "Slip.Ask.Kind Slip.Ask.Name "
	return []hallSample{
		{"slip 1 d1 3 web:0 ann make web dev fleet 1,2,,1,,", hallAsked(1, make6, on("service", "web", 0)), hallSlipParts + named + "Slip.Ask.Team Slip.Ask.Holds Slip.Ask.Values"},
		{"slip 2 d1 3 web:4,db:2 ann change web 4 1,2,0,1,9,db", hallAsked(2, change, on("service", "web", 4), on("service", "db", 2)), hallSlipParts + named + "Slip.Ask.Seen Slip.Ask.Values"},
		{"slip 3 d1 3 web:4 ann end web 6", hallAsked(3, ask{Verb: 3, Kind: "service", Name: "web", Seen: 6}, on("service", "web", 4)), hallSlipParts + named + "Slip.Ask.Seen"},
		{"slip 4 d1 3 web:4 ann letgo web audit", hallAsked(4, ask{Verb: 4, Kind: "service", Name: "web", Hold: "audit"}, on("service", "web", 4)), hallSlipParts + named + "Slip.Ask.Hold"},
		{"slip 5 d1 3 * ann give bob 145 service lab w-", hallAsked(5, give), hallSlipParts + "Slip.Ask.To Slip.Ask.Rule.Verbs Slip.Ask.Rule.Kind Slip.Ask.Rule.Team Slip.Ask.Rule.Prefix"},
		{"slip 6 d1 3 * ann take 8", hallAsked(6, ask{Verb: 6, Number: 8}), hallSlipParts + "Slip.Ask.Number"},
		{"draw 7 d1 dev copies 5", entry{Kind: 2, Number: 7, Door: "d1", Team: "dev", Resource: "copies", Amount: 5}, "Door Team Resource Amount"},
		{"back 8 d1 dev copies", entry{Kind: 3, Number: 8, Door: "d1", Team: "dev", Resource: "copies"}, "Door Team Resource"},
		{"bound 9 dev copies 12", entry{Kind: 4, Number: 9, Team: "dev", Resource: "copies", Amount: 12}, "Team Resource Amount"},
		{"time 10", entry{Kind: 5, Number: 10}, ""},
		{"sweep 11", entry{Kind: 6, Number: 11}, ""},
		{"act 12 web 5 2 * * *", hallActed(12, stewardAct{Service: "web", Seen: 5, Create: 2}), hallActParts},
		{"act 13 web 5 1 3:2 1:4,2:5 drop", hallActed(13, stewardAct{Service: "web", Seen: 5, Create: 1, Want: 3, Cool: 2, Scale: true, Ends: ends, Drop: true}), hallActParts + " Act.Want Act.Cool"},
		{"sea 14 tick", hallAtSea(14, seaEvent{Kind: 1}), "Sea.Kind"},
		{"sea 15 fails web 2", hallAtSea(15, seaEvent{Kind: 3, Name: "web", Number: 2}), "Sea.Kind Sea.Name Sea.Number"},
		{"sea 16 sink b1", hallAtSea(16, seaEvent{Kind: 4, Name: "b1"}), "Sea.Kind Sea.Name"},
		{"sea 17 raise b1", hallAtSea(17, seaEvent{Kind: 5, Name: "b1"}), "Sea.Kind Sea.Name Sea.Flag"},
		{"sea 18 drain b1", hallAtSea(18, seaEvent{Kind: 5, Name: "b1", Flag: true}), "Sea.Kind Sea.Name Sea.Flag"},
		{"sea 19 load web 30", hallAtSea(19, seaEvent{Kind: 6, Name: "web", Number: 30}), "Sea.Kind Sea.Name Sea.Number"},
	}
}

// checkForm says of an entry what its form is; with none it has none. A form is read as the entry.
func checkForm(t *testing.T, what string, e entry, form string) {
	t.Helper()
	e = spread(e)
	before := whole(e)
	if got := impl.HallForm(e); got != form {
		t.Errorf("%s: %q, not %q", what, got, form)
	}
	if !same(whole(e), before) {
		t.Errorf("%s: the entry is changed", what)
	}
	if form != "" {
		checkRead(t, what, form, e)
	}
}

// checkRead says that a text is read as an entry.
func checkRead(t *testing.T, what, text string, e entry) {
	t.Helper()
	got, ok := impl.HallRead(text)
	if !ok || !same(got, e) {
		t.Errorf("%s: %q is read as %+v, %v, not as %+v", what, text, got, ok, e)
	}
	again, _ := impl.HallRead(text)
	newMemory(t, what, got, e, again)
}

// checkUnread says that a text is no form.
func checkUnread(t *testing.T, what, text string) {
	t.Helper()
	if got, ok := impl.HallRead(text); ok || !same(got, entry{}) {
		t.Errorf("%s: %q is read as %+v, %v", what, text, got, ok)
	}
}

func TestHallForms(t *testing.T) {
	for _, s := range hallSamples() {
		checkForm(t, "a sample", s.entry, s.form)
	}
}

// hallLeaves goes over the parts of an entry by their names; a list is one part.
func hallLeaves(e *entry, visit func(path string, part reflect.Value)) {
	var walk func(path string, v reflect.Value)
	walk = func(path string, v reflect.Value) {
		if v.Kind() != reflect.Struct {
			visit(path, v)
			return
		}
		for i := range v.NumField() {
			walk(strings.TrimPrefix(path+"."+v.Type().Field(i).Name, "."), v.Field(i))
		}
	}
	walk("", reflect.ValueOf(e).Elem())
}

// hallOthers are values that a part may have; none is nothing.
func hallOthers(part reflect.Value) []reflect.Value {
	list := func(things ...any) []reflect.Value {
		var values []reflect.Value
		for _, thing := range things {
			values = append(values, reflect.ValueOf(thing).Convert(part.Type()))
		}
		return values
	}
	switch part.Kind() {
	case reflect.String:
		return list("a", "*", "service", "1")
	case reflect.Int:
		return list(1, -1, 7, math.MaxInt, math.MinInt)
	case reflect.Bool:
		return list(true)
	}
	return []reflect.Value{reflect.MakeSlice(part.Type(), 1, 1), reflect.MakeSlice(part.Type(), 2, 2)}
}

// hallPart is one part of a sample's entry, turned into a value; what lists have is not shared.
func hallPart(s hallSample, path string, value reflect.Value) entry {
	e := s.entry
	hallLeaves(&e, func(at string, part reflect.Value) {
		if at == path {
			part.Set(value)
		}
	})
	return e
}

// What is not written is nothing, part by part; empty lists are.
func TestHallFormUnwritten(t *testing.T) {
	count := 0
	for _, s := range hallSamples() {
		written := append(strings.Fields(s.written), "Kind", "Number")
		seen := 0
		e := s.entry
		hallLeaves(&e, func(path string, part reflect.Value) {
			if slices.Contains(written, path) {
				seen++
				return
			}
			if part.Kind() == reflect.Slice {
				checkForm(t, s.form+" with an empty "+path, hallPart(s, path, reflect.MakeSlice(part.Type(), 0, 3)), s.form)
			}
			for _, value := range hallOthers(part) {
				checkForm(t, s.form+" with "+path, hallPart(s, path, value), "")
				count++
			}
		})
		if seen != len(written) {
			t.Errorf("%s: %d parts of %q", s.form, seen, written)
		}
	}
	if count < 19*35*2 {
		t.Errorf("%d", count)
	}
}

// Each part that is written as a name is one of 1 to 16 bytes, and nothing else.
func TestHallFormNames(t *testing.T) {
	for _, s := range hallSamples() {
		e := s.entry
		hallLeaves(&e, func(path string, part reflect.Value) {
			if part.Kind() != reflect.String || part.String() == "" || path == "Slip.Ask.Kind" {
				return
			}
			for _, name := range []string{"a", "z", "0", "9", "-", "007", "drop", "service", letters(16)} {
				turned := hallPart(s, path, reflect.ValueOf(name))
				checkForm(t, path, turned, hallFormAsRead(turned))
				if impl.HallForm(turned) == "" || !strings.Contains(impl.HallForm(turned), " "+name) {
					t.Errorf("%s of %q: %q", path, name, impl.HallForm(turned))
				}
			}
			others := []string{letters(17), letters(161), "*", "A", "a b", " a", "a ", "a,b", "a:1", "a_b", "é", "\x00", "\xff", "`", "{", "/", "\n"}
			if !strings.Contains(path, "Rule.") {
				others = append(others, "")
			}
			for _, text := range others {
				checkForm(t, path+" of "+text, hallPart(s, path, reflect.ValueOf(text)), "")
			}
		})
	}
}

// Each number that is written is 0 to 9999999, but for the entry's own, and those that pick the form.
func TestHallFormNumbers(t *testing.T) {
	for _, s := range hallSamples() {
		written := append(strings.Fields(s.written), "Number")
		e := s.entry
		hallLeaves(&e, func(path string, part reflect.Value) {
			if part.Kind() != reflect.Int || !slices.Contains(written, path) || path == "Slip.Ask.Verb" || path == "Sea.Kind" {
				return
			}
			least, most := 0, 9999999
			if path == "Number" {
				least, most = 1, 1000000
			}
			for _, n := range append(aroundEnds(least, most), 999, 1000000, 10000001) {
				turned := hallPart(s, path, reflect.ValueOf(n))
				if n < least || n > most {
					checkForm(t, path+" of "+strconv.Itoa(n), turned, "")
					continue
				}
				checkForm(t, path+" of "+strconv.Itoa(n), turned, hallFormAsRead(turned))
				if form := impl.HallForm(turned); !strings.Contains(form, strconv.Itoa(n)) {
					t.Errorf("%s of %d: %q", path, n, form)
				}
			}
		})
	}
}

// Of other Kinds there are no forms, and none of an entry of one Kind with the parts of another.
func TestHallFormKinds(t *testing.T) {
	// All that has the parts of another Kind: what time and sweep have is the same, and what is given back may be drawn.
	others := map[string]string{"time 10": "sweep 10", "sweep 11": "time 11", "back 8 d1 dev copies": "draw 8 d1 dev copies 0"}
	for _, s := range hallSamples() {
		for _, kind := range append(aroundEnds(1, 8), 2, 3, 4, 5, 6, 7) {
			e := s.entry
			e.Kind = kind
			form := impl.HallForm(e)
			if kind != s.entry.Kind && form != "" && form != others[s.form] {
				t.Errorf("%s with the Kind %d: %q", s.form, kind, form)
			}
			checkForm(t, "another Kind", e, hallFormAsRead(e))
		}
	}
	for _, verb := range aroundEnds(1, 6) {
		if verb < 1 || verb > 6 {
			checkForm(t, "another Verb", hallAsked(1, ask{Verb: verb}), "")
			checkForm(t, "another Verb", hallAsked(1, ask{Verb: verb, Kind: "service", Name: "web"}), "")
		}
	}
	for _, kind := range append(aroundEnds(1, 6), impl.StewWish) {
		if kind < 1 || kind > 6 || kind == impl.StewWish {
			checkForm(t, "another Kind of Sea", hallAtSea(1, seaEvent{Kind: kind}), "")
			checkForm(t, "another Kind of Sea", hallAtSea(1, seaEvent{Kind: kind, Name: "web"}), "")
			checkForm(t, "another Kind of Sea", hallAtSea(1, seaEvent{Kind: kind, Name: "web", Number: 1}), "")
		}
	}
	checkForm(t, "a wish", hallAtSea(1, seaEvent{Kind: impl.StewWish, Service: impl.StewService{Name: "web"}}), "")
	checkForm(t, "nothing", entry{}, "")
}

// hallTurnedSample is the sample of a place, turned.
func hallTurnedSample(place int, turn func(e *entry)) entry {
	e := spread(hallSamples()[place].entry)
	turn(&e)
	return e
}

func TestHallFormLists(t *testing.T) {
	makes := func(turn func(a *ask)) entry { return hallTurnedSample(0, func(e *entry) { turn(&e.Slip.Ask) }) }
	holds := func(list ...string) entry { return makes(func(a *ask) { a.Holds = list }) }
	values := func(list ...string) entry { return makes(func(a *ask) { a.Values = list }) }
	changes := func(list ...string) entry {
		return hallTurnedSample(1, func(e *entry) { e.Slip.Ask.Values = list })
	}
	wants := func(list ...want) entry { return hallTurnedSample(0, func(e *entry) { e.Slip.Wants = list }) }
	gives := func(r gateRule) entry { return hallTurnedSample(4, func(e *entry) { e.Slip.Ask.Rule = r }) }
	verbs := func(list ...int) entry { return gives(gateRule{Verbs: list}) }
	acts := func(turn func(a *stewardAct)) entry { return hallTurnedSample(11, func(e *entry) { turn(&e.Act) }) }
	ends := func(list ...impl.StewEnd) entry { return acts(func(a *stewardAct) { a.Ends = list }) }
	scales := func(scale bool, want, cool int) entry {
		return acts(func(a *stewardAct) { a.Scale, a.Want, a.Cool = scale, want, cool })
	}
	end := func(number, seen int) impl.StewEnd { return impl.StewEnd{Number: number, Seen: seen} }
	kind := func(kind string) func(a *ask) { return func(a *ask) { a.Kind = kind } }
	for _, c := range []struct {
		form  string
		entry entry
	}{
		{"slip 1 d1 3 web:0 ann make web dev * 1,2,,1,,", holds()},
		{"slip 1 d1 3 web:0 ann make web dev a 1,2,,1,,", holds("a")},
		{"slip 1 d1 3 web:0 ann make web dev b,a,a,0,z 1,2,,1,,", holds("b", "a", "a", "0", "z")},
		{"", holds("")},
		{"", holds("*")},
		{"", holds("a", "")},
		{"", holds("", "a")},
		{"", holds("a,b")},
		{"", holds("a", "b,c")},
		{"", holds(letters(17))},
		{"slip 1 d1 3 web:0 ann make web dev fleet ,,,,,", values("", "", "", "", "", "")},
		{"slip 1 d1 3 web:0 ann make web dev fleet a-b,0007,9999999,aaaaaaaaaaaaaaaa,12345678,-", values("a-b", "0007", "9999999", letters(16), "12345678", "-")},
		{"", values()},
		{"", values("")},
		{"", values("1,2,,1,,")},
		{"", values("1", "2", "3", "4", "5")},
		{"", values("1", "2", "3", "4", "5", "6", "7")},
		{"", values("", "", "", "", "")},
		{"", values("", "", "", "", "", "", "")},
		{"", values("1", "2,3", "4", "5", "6")},
		{"", values("1", "2", "3", "4", "5", "6,7")},
		{"", values("*", "", "", "", "", "")},
		{"", values("", "", "", "", "", letters(17))},
		{"", values("", "A", "", "", "", "")},
		{"", values("", "", "+1", "", "", "")},
		{"", values("", "", "", "1 ", "", "")},
		{"slip 2 d1 3 web:4,db:2 ann change web 4 ,,,,,", changes("", "", "", "", "", "")},
		{"", changes()},
		{"", changes("1", "2", "3", "4", "5")},
		{"", changes("1", "2", "3", "4", "5", "6", "7")},
		{"", changes("1", "2", "3", "4", "5", "1.5")},
		{"slip 1 d1 3 * ann make web dev fleet 1,2,,1,,", wants()},
		{"slip 1 d1 3 b:9999999,a:0,a:0 ann make web dev fleet 1,2,,1,,", wants(on("service", "b", 9999999), on("service", "a", 0), on("service", "a", 0))},
		{"", wants(on("", "web", 0))},
		{"", wants(on("berth", "web", 0))},
		{"", wants(on("service", "web", 0), on("services", "web", 0))},
		{"", wants(on("service", "", 0))},
		{"", wants(on("service", "a:0,b", 0))},
		{"", wants(on("service", "a:1", 0))},
		{"", wants(on("service", letters(17), 0))},
		{"", wants(on("service", "web", -1))},
		{"", wants(on("service", "web", 10000000))},
		{"", wants(on("service", "web", 0), on("service", "web", math.MinInt))},
		{"", makes(kind(""))},
		{"", makes(kind("berth"))},
		{"", makes(kind("Service"))},
		{"slip 5 d1 3 * ann give bob 0 * * *", verbs(0)},
		{"slip 5 d1 3 * ann give bob 9 * * *", verbs(9)},
		{"slip 5 d1 3 * ann give bob 9876543210 * * *", verbs(9, 8, 7, 6, 5, 4, 3, 2, 1, 0)},
		{"slip 5 d1 3 * ann give bob 001100 * * *", verbs(0, 0, 1, 1, 0, 0)},
		{"", verbs()},
		{"", verbs(10)},
		{"", verbs(1, 23)},
		{"", verbs(-1)},
		{"", verbs(1, -1)},
		{"", verbs(math.MaxInt)},
		{"slip 5 d1 3 * ann give bob 1 service * *", gives(gateRule{Verbs: []int{1}, Kind: "service"})},
		{"slip 5 d1 3 * ann give bob 1 berth * *", gives(gateRule{Verbs: []int{1}, Kind: "berth"})},
		{"slip 5 d1 3 * ann give bob 1 * lab *", gives(gateRule{Verbs: []int{1}, Team: "lab"})},
		{"slip 5 d1 3 * ann give bob 1 * * w-", gives(gateRule{Verbs: []int{1}, Prefix: "w-"})},
		{"slip 5 d1 3 * ann give bob 1 * * aaaaaaaaaaaaaaaa", gives(gateRule{Verbs: []int{1}, Prefix: letters(16)})},
		{"", gives(gateRule{Verbs: []int{1}, Kind: "*"})},
		{"", gives(gateRule{Verbs: []int{1}, Team: "*"})},
		{"", gives(gateRule{Verbs: []int{1}, Prefix: "*"})},
		{"", gives(gateRule{Verbs: []int{1}, Prefix: letters(17)})},
		{"act 12 web 5 2 0:0 * *", scales(true, 0, 0)},
		{"act 12 web 5 2 9999999:9999999 * *", scales(true, 9999999, 9999999)},
		{"", scales(true, 10000000, 0)},
		{"", scales(true, 0, 10000000)},
		{"", scales(true, -1, 0)},
		{"", scales(true, 0, -1)},
		{"", scales(false, 1, 0)},
		{"", scales(false, 0, 1)},
		{"", scales(false, -1, 0)},
		{"act 12 web 5 2 * 7:0 *", ends(end(7, 0))},
		{"act 12 web 5 2 * 3:9999999,2:1,2:1,0:0 *", ends(end(3, 9999999), end(2, 1), end(2, 1), end(0, 0))},
		{"", ends(end(-1, 0))},
		{"", ends(end(0, -1))},
		{"", ends(end(1, 1), end(10000000, 1))},
		{"", ends(end(1, 10000000), end(1, 1))},
		{"act 12 web 5 2 * * drop", acts(func(a *stewardAct) { a.Drop = true })},
		{"act 12 web 0 0 * * drop", acts(func(a *stewardAct) { a.Drop, a.Seen, a.Create = true, 0, 0 })},
	} {
		checkForm(t, c.form, c.entry, c.form)
		if hallFormAsRead(c.entry) != c.form {
			t.Errorf("%+v", c.entry)
		}
	}
}

// hallGrown are names that take one byte more with each n, as they stand in a list in which each has so many bytes behind it.
func hallGrown(n, behind int) []string {
	return append(slices.Repeat([]string{letters(15 - behind)}, n/16), letters(1+n%16))
}

// A form has at most 160 bytes, whichever list makes it long.
func TestHallFormSize(t *testing.T) {
	for what, form := range map[string]func(n int) entry{
		"verbs": func(n int) entry {
			return hallTurnedSample(4, func(e *entry) { e.Slip.Ask.Rule.Verbs = slices.Repeat([]int{3}, 1+n) })
		},
		"holds": func(n int) entry {
			return hallTurnedSample(0, func(e *entry) { e.Slip.Ask.Holds = hallGrown(n, 0) })
		},
		"wants": func(n int) entry {
			return hallTurnedSample(1, func(e *entry) {
				e.Slip.Wants = nil
				for _, name := range hallGrown(n, len(":0")) {
					e.Slip.Wants = append(e.Slip.Wants, on("service", name, 0))
				}
			})
		},
		"ends": func(n int) entry {
			return hallTurnedSample(12, func(e *entry) {
				last := []int{1, 10, 100, 1000}[n%4]
				e.Act.Ends = append(slices.Repeat([]impl.StewEnd{{Number: 1, Seen: 1}}, n/4), impl.StewEnd{Number: last, Seen: 1})
			})
		},
	} {
		for n := range 300 {
			e := form(n)
			text := hallTextOf(e)
			if size := len(hallTextOf(form(0))) + n; len(text) != size {
				t.Fatalf("%s: %q has not %d bytes", what, text, size)
			}
			if len(text) <= 160 {
				checkForm(t, what, e, text)
			} else {
				checkForm(t, what, e, "")
				checkUnread(t, what, text)
			}
		}
	}
	checkForm(t, "very long texts", hallTurnedSample(6, func(e *entry) { e.Door, e.Team = letters(100000), letters(100000) }), "")
	checkForm(t, "very long lists", hallTurnedSample(12, func(e *entry) { e.Act.Ends = make([]impl.StewEnd, 100000) }), "")
}
