package tests

import (
	"math"
	"reflect"
	"testing"

	"loop.example/wharfdesk/impl"
)

func badShapes() []impl.GateShape {
	list := harbourShapes()
	list[0].Fields[1].Least = 1
	return list
}

func TestGateFillPutsDefaults(t *testing.T) {
	for _, c := range []struct {
		kind   string
		values []string
		want   []string
	}{
		{"job", []string{"3", "big", "b-1", "", "", ""}, []string{"3", "big", "b-1", "", "", "none"}},
		{"job", []string{"", "", "", "", "", ""}, []string{"1", "", "", "", "", "none"}},
		{"job", []string{"99", "?", "NO", "j", "c", "x y"}, []string{"99", "?", "NO", "j", "c", "x y"}},
		{"berth", []string{"", "", ""}, []string{"", "north", ""}},
		{"berth", []string{"8", "west", "ab"}, []string{"8", "west", "ab"}},
		{"crew", nil, nil},
	} {
		o := impl.GateObject{Kind: c.kind, Name: "n", Team: "t", Values: c.values, Ending: true, Holds: []string{"h"}, Version: 4}
		want := o
		want.Values = c.want
		if got := impl.GateFill(harbourShapes(), o); !sameObject(got, want) {
			t.Errorf("%q became %+v", c.values, got)
		}
	}
}

func TestGateFillKeepsWhatIsNoObject(t *testing.T) {
	o := impl.GateObject{Kind: "berth", Name: "NO NAME", Team: "", Values: []string{"", "", ""}, Holds: []string{"z", "a"}, Version: -4}
	want := o
	want.Values = []string{"", "north", ""}
	if got := impl.GateFill(harbourShapes(), o); !sameObject(got, want) {
		t.Errorf("the values of an object that GateCheck refuses are filled: %+v", got)
	}
}

func TestGateFillGivesTheObjectAsItIs(t *testing.T) {
	berth := impl.GateObject{Kind: "berth", Name: "b", Team: "t", Values: []string{"1", "", ""}, Ending: true, Holds: []string{"h"}, Version: 2}
	few, many, none, other := berth, berth, berth, berth
	few.Values = []string{"1", ""}
	many.Values = []string{"1", "", "", ""}
	none.Values = nil
	other.Kind = "ship"
	for _, c := range []struct {
		what   string
		shapes []impl.GateShape
		object impl.GateObject
	}{
		{"shapes not ok", badShapes(), berth},
		{"no shapes", nil, berth},
		{"no shape of its Kind", harbourShapes(), other},
		{"too few values", harbourShapes(), few},
		{"too many values", harbourShapes(), many},
		{"no values", harbourShapes(), none},
		{"nothing", harbourShapes(), impl.GateObject{}},
	} {
		if got := impl.GateFill(c.shapes, c.object); !sameObject(got, c.object) {
			t.Errorf("%s: %+v", c.what, got)
		}
	}
}

func TestGateFillSharesNoMemory(t *testing.T) {
	wrong := harbourJob()
	wrong.Values = spacious("1")
	empty := harbourJob()
	empty.Values, empty.Holds = spacious(), spacious()
	for _, shapes := range [][]impl.GateShape{harbourShapes(), badShapes(), nil} {
		for _, o := range []impl.GateObject{harbourJob(), wrong, empty} {
			got := impl.GateFill(shapes, o)
			for _, mine := range [][]string{got.Values, got.Holds} {
				if shareMemory(mine, o.Values) || shareMemory(mine, o.Holds) {
					t.Errorf("the answer to %+v shares memory with it", o)
				}
			}
			if shareMemory(got.Values, got.Holds) {
				t.Errorf("two lists of the answer to %+v share memory", o)
			}
		}
	}
}

func TestGateFillAnswersAreApart(t *testing.T) {
	shapes, o := harbourShapes(), harbourJob()
	first := impl.GateFill(shapes, o)
	for i := range first.Values {
		first.Values[i] = "turned"
	}
	first.Holds[0] = "turned"
	first.Values = append(first.Values, "more")
	first.Holds = append(first.Holds, "more")
	if !sameObject(o, harbourJob()) || !reflect.DeepEqual(shapes, harbourShapes()) {
		t.Error("writing into an answer changed an argument")
	}
	second := impl.GateFill(shapes, o)
	if !sameTexts(second.Values, []string{"3", "big", "b-1", "", "", "none"}) || !sameTexts(second.Holds, []string{"clean", "count"}) {
		t.Errorf("writing into an answer changed the next one: %+v", second)
	}
}

func TestGateObjectsAreNotChanged(t *testing.T) {
	shapes, old, o := harbourShapes(), harbourJob(), harbourJob()
	o.Values[5] = "word"
	before := impl.GateFill(nil, o)
	impl.GateFill(shapes, o)
	impl.GateCheck(shapes, o)
	impl.GateTurned(shapes, old, o)
	if !sameObject(o, before) || !sameObject(old, harbourJob()) || !reflect.DeepEqual(shapes, harbourShapes()) {
		t.Errorf("an argument was changed: %+v, %+v, %+v", shapes, old, o)
	}
	for _, list := range [][]string{o.Values, o.Holds, old.Values, old.Holds} {
		untouchedBehind(t, "a list of an object", list)
	}
	for _, shape := range shapes {
		for _, f := range shape.Fields {
			untouchedBehind(t, f.Name, f.Words)
		}
	}
}

func checkCheck(t *testing.T, what string, shapes []impl.GateShape, o impl.GateObject, code, place int) {
	t.Helper()
	if c, p := impl.GateCheck(shapes, o); c != code || p != place {
		t.Errorf("%s: GateCheck is %d, %d; wanted %d, %d", what, c, p, code, place)
	}
}

func TestGateCheckOrdinary(t *testing.T) {
	checkCheck(t, "a job", harbourShapes(), harbourJob(), 0, 0)
	checkCheck(t, "a crew", harbourShapes(), impl.GateObject{Kind: "crew", Name: "c", Team: "t"}, 0, 0)
	checkCheck(t, "a crew with empty lists", harbourShapes(), impl.GateObject{Kind: "crew", Name: "c", Team: "t", Values: []string{}, Holds: []string{}}, 0, 0)
}

func TestGateCheckIsNoObject(t *testing.T) {
	for _, c := range []struct {
		what string
		code int
		turn func(o *impl.GateObject)
	}{
		{"a Kind that no shape has", 1, func(o *impl.GateObject) { o.Kind = "ship" }},
		{"no Kind", 1, func(o *impl.GateObject) { o.Kind = "" }},
		{"another Kind", 1, func(o *impl.GateObject) { o.Kind = "crew" }},
		{"no Name", 1, func(o *impl.GateObject) { o.Name = "" }},
		{"a Name of one byte", 0, func(o *impl.GateObject) { o.Name = "-" }},
		{"a long Name", 0, func(o *impl.GateObject) { o.Name = letters(impl.GateMaxName) }},
		{"too long a Name", 1, func(o *impl.GateObject) { o.Name = letters(impl.GateMaxName + 1) }},
		{"a Name that is none", 1, func(o *impl.GateObject) { o.Name = "J" }},
		{"no Team", 1, func(o *impl.GateObject) { o.Team = "" }},
		{"a long Team", 0, func(o *impl.GateObject) { o.Team = letters(impl.GateMaxName) }},
		{"too long a Team", 1, func(o *impl.GateObject) { o.Team = letters(impl.GateMaxName + 1) }},
		{"a Team that is none", 1, func(o *impl.GateObject) { o.Team = "o ps" }},
		{"no Values", 1, func(o *impl.GateObject) { o.Values = nil }},
		{"too few Values", 1, func(o *impl.GateObject) { o.Values = o.Values[:5] }},
		{"too many Values", 1, func(o *impl.GateObject) { o.Values = append(o.Values, "") }},
		{"no Holds", 0, func(o *impl.GateObject) { o.Holds = nil }},
		{"GateMaxHolds Holds", 0, func(o *impl.GateObject) { o.Holds = []string{"a", "b", "c"} }},
		{"one Hold more", 1, func(o *impl.GateObject) { o.Holds = []string{"a", "b", "c", "d"} }},
		{"a Hold twice", 1, func(o *impl.GateObject) { o.Holds = []string{"a", "a"} }},
		{"Holds that descend", 1, func(o *impl.GateObject) { o.Holds = []string{"a", "c", "b"} }},
		{"a Hold that is no name", 1, func(o *impl.GateObject) { o.Holds = []string{"A", "b"} }},
		{"an empty Hold", 1, func(o *impl.GateObject) { o.Holds = []string{""} }},
		{"too long a Hold", 1, func(o *impl.GateObject) { o.Holds = []string{letters(impl.GateMaxName + 1)} }},
		{"a long Hold", 0, func(o *impl.GateObject) { o.Holds = []string{letters(impl.GateMaxName)} }},
		{"Version 0", 0, func(o *impl.GateObject) { o.Version = 0 }},
		{"Version below", 1, func(o *impl.GateObject) { o.Version = -1 }},
		{"the last Version", 0, func(o *impl.GateObject) { o.Version = impl.GateMaxVersion }},
		{"Version above", 1, func(o *impl.GateObject) { o.Version = impl.GateMaxVersion + 1 }},
		{"Version far below", 1, func(o *impl.GateObject) { o.Version = math.MinInt }},
		{"not Ending", 0, func(o *impl.GateObject) { o.Ending = false }},
	} {
		o := harbourJob()
		c.turn(&o)
		checkCheck(t, c.what, harbourShapes(), o, c.code, 0)
		if c.code == 1 && len(o.Values) == 6 {
			o.Values[5] = "no fit at all"
			checkCheck(t, c.what+", and a field with a fault", harbourShapes(), o, 1, 0)
		}
	}
}

func TestGateCheckShapesNotOk(t *testing.T) {
	checkCheck(t, "shapes not ok", badShapes(), harbourJob(), 1, 0)
	checkCheck(t, "no shapes", nil, harbourJob(), 1, 0)
	checkCheck(t, "nothing at all", nil, impl.GateObject{}, 1, 0)
	twice := append(harbourShapes(), harbourShapes()[2])
	checkCheck(t, "a shape twice", twice, harbourJob(), 1, 0)
}

func TestGateCheckTellsTheFirstField(t *testing.T) {
	for _, c := range []struct {
		values []string
		code   int
		place  int
	}{
		{[]string{"3", "big", "b-1", "j-2", "c-1", "!"}, 0, 0},
		{[]string{"0", "small", "b", "", "", ""}, 0, 0},
		{[]string{"32", "big", "b", "", "", "12345678"}, 0, 0},
		{[]string{"", "big", "b-1", "", "", ""}, 2, 0},
		{[]string{"33", "big", "b-1", "", "", ""}, 3, 0},
		{[]string{"3", "", "b-1", "", "", ""}, 2, 1},
		{[]string{"3", "huge", "b-1", "", "", ""}, 3, 1},
		{[]string{"3", "big", "", "", "", ""}, 2, 2},
		{[]string{"3", "big", "B", "", "", ""}, 3, 2},
		{[]string{"3", "big", "b-1", "J", "", ""}, 3, 3},
		{[]string{"3", "big", "b-1", "", letters(17), ""}, 3, 4},
		{[]string{"3", "big", "b-1", "", "", "123456789"}, 3, 5},
		// The first field with a fault is told, not the first code.
		{[]string{"03", "", "", "", "", ""}, 3, 0},
		{[]string{"", "huge", "B", "J", "C", "x y"}, 2, 0},
		{[]string{"3", "huge", "", "", "", ""}, 3, 1},
		{[]string{"3", "", "B", "", "", ""}, 2, 1},
		{[]string{"3", "big", "", "J", "", ""}, 2, 2},
		{[]string{"3", "big", "B", "J", "", "x y"}, 3, 2},
		{[]string{"", "", "", "", "", ""}, 2, 0},
	} {
		o := harbourJob()
		o.Values = c.values
		checkCheck(t, "values", harbourShapes(), o, c.code, c.place)
	}
}

func TestGateCheckDoesNotFill(t *testing.T) {
	o := impl.GateObject{Kind: "job", Name: "j", Team: "t", Values: []string{"", "big", "b", "", "", ""}}
	checkCheck(t, "a Must field with a Default that is not set", harbourShapes(), o, 2, 0)
	checkCheck(t, "the same, filled", harbourShapes(), impl.GateFill(harbourShapes(), o), 0, 0)
}

func checkTurned(t *testing.T, what string, shapes []impl.GateShape, old, o impl.GateObject, code, place int) {
	t.Helper()
	if c, p := impl.GateTurned(shapes, old, o); c != code || p != place {
		t.Errorf("%s: GateTurned is %d, %d; wanted %d, %d", what, c, p, code, place)
	}
}

func jobWith(values ...string) impl.GateObject {
	o := harbourJob()
	o.Values = values
	return o
}

func TestGateTurnedFixedFields(t *testing.T) {
	old := jobWith("3", "big", "b-1", "j-2", "c-1", "one")
	open := jobWith("3", "big", "b-1", "", "", "")
	for _, c := range []struct {
		what  string
		old   impl.GateObject
		o     impl.GateObject
		code  int
		place int
	}{
		{"nothing turned", old, old, 0, 0},
		{"fields that are not Fixed", old, jobWith("3", "big", "b-9", "j-2", "", "two"), 0, 0},
		{"the first Fixed field", old, jobWith("4", "big", "b-1", "j-2", "c-1", "one"), 4, 0},
		{"the second", old, jobWith("3", "small", "b-1", "j-2", "c-1", "one"), 4, 1},
		{"the third", old, jobWith("3", "big", "b-9", "j-3", "", "two"), 4, 3},
		{"the third, emptied", old, jobWith("3", "big", "b-1", "", "c-1", "one"), 4, 3},
		{"the first of several", old, jobWith("3", "small", "b-1", "", "c-1", "one"), 4, 1},
		{"the first of all", old, jobWith("0", "small", "b-1", "", "c-1", "one"), 4, 0},
		{"a Fixed field that was not set", open, jobWith("3", "big", "b-1", "j-7", "", ""), 0, 0},
	} {
		checkTurned(t, c.what, harbourShapes(), c.old, c.o, c.code, c.place)
	}
}

func TestGateTurnedPassesFieldsThatWereNotSet(t *testing.T) {
	shapes := []impl.GateShape{{Kind: "k", Fields: []impl.GateField{
		{Name: "x", Kind: impl.GateNumber, Most: 9, Fixed: true},
		{Name: "y", Kind: impl.GateNumber, Most: 9, Fixed: true, Default: "5"},
		{Name: "z", Kind: impl.GateNumber, Most: 9, Fixed: true},
	}}}
	old := impl.GateObject{Kind: "k", Name: "n", Team: "t", Values: []string{"", "", "2"}}
	o := impl.GateObject{Kind: "k", Name: "n", Team: "t", Values: []string{"1", "4", "2"}}
	checkTurned(t, "two that were not set", shapes, old, o, 0, 0)
	o.Values = []string{"1", "4", "3"}
	checkTurned(t, "and one behind them that was", shapes, old, o, 4, 2)
}

func TestGateTurnedWhatIsNoValue(t *testing.T) {
	o := harbourJob()
	o.Ending, o.Holds, o.Version = false, nil, 900
	checkTurned(t, "Ending, Holds and Version may turn", harbourShapes(), harbourJob(), o, 0, 0)
	crew := impl.GateObject{Kind: "crew", Name: "c", Team: "t"}
	checkTurned(t, "no fields", harbourShapes(), crew, crew, 0, 0)
}

func TestGateTurnedIsNoObject(t *testing.T) {
	for _, c := range []struct {
		what string
		turn func(o *impl.GateObject)
	}{
		{"another Kind", func(o *impl.GateObject) { o.Kind, o.Values = "berth", []string{"3", "", ""} }},
		{"a Kind that no shape has", func(o *impl.GateObject) { o.Kind = "ship" }},
		{"another Name", func(o *impl.GateObject) { o.Name = "j-2" }},
		{"another Team", func(o *impl.GateObject) { o.Team = "dev" }},
		{"no name", func(o *impl.GateObject) { o.Name = "" }},
		{"too few Values", func(o *impl.GateObject) { o.Values = o.Values[:2] }},
		{"too many Values", func(o *impl.GateObject) { o.Values = append(o.Values, "") }},
		{"Holds that descend", func(o *impl.GateObject) { o.Holds = []string{"b", "a"} }},
		{"a Version above", func(o *impl.GateObject) { o.Version = impl.GateMaxVersion + 1 }},
		{"a Must field not set", func(o *impl.GateObject) { o.Values[2] = "" }},
		{"a value that does not fit", func(o *impl.GateObject) { o.Values[5] = "x y" }},
		{"a Fixed value turned into one that does not fit", func(o *impl.GateObject) { o.Values[1] = "huge" }},
		{"a Fixed value turned, and a later one that does not fit", func(o *impl.GateObject) { o.Values[1], o.Values[5] = "small", "x y" }},
		{"a Fixed value turned, and another Team", func(o *impl.GateObject) { o.Values[1], o.Team = "small", "dev" }},
	} {
		o := harbourJob()
		c.turn(&o)
		checkTurned(t, c.what+" in o", harbourShapes(), harbourJob(), o, 1, 0)
		checkTurned(t, c.what+" in old", harbourShapes(), o, harbourJob(), 1, 0)
	}
}

func TestGateTurnedShapesNotOk(t *testing.T) {
	checkTurned(t, "shapes not ok", badShapes(), harbourJob(), harbourJob(), 1, 0)
	checkTurned(t, "no shapes", nil, harbourJob(), harbourJob(), 1, 0)
	bad := harbourJob()
	bad.Version = -1
	checkTurned(t, "the same fault in both", harbourShapes(), bad, bad, 1, 0)
	checkTurned(t, "nothing", harbourShapes(), impl.GateObject{}, impl.GateObject{}, 1, 0)
}
