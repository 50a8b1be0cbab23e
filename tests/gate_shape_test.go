package tests

import (
	"math"
	"reflect"
	"strings"
	"testing"

	"loop.example/wharfdesk/impl"
)

type fitsCase struct {
	value string
	want  bool
}

func checkFits(t *testing.T, f impl.GateField, cases []fitsCase) {
	t.Helper()
	for _, c := range cases {
		if got := impl.GateFits(f, c.value); got != c.want {
			t.Errorf("GateFits(%+v, %q) = %v", f, c.value, got)
		}
	}
}

func TestLimitsOfShapesAndObjects(t *testing.T) {
	got := [...]int{
		impl.GateMaxName, impl.GateMaxValue, impl.GateMaxFields, impl.GateMaxShapes,
		impl.GateMaxWords, impl.GateMaxNumber, impl.GateMaxHolds, impl.GateMaxVersion,
		impl.GateNumber, impl.GateWord, impl.GateText, impl.GateLink,
		impl.GateHolds, impl.GateLeans, impl.GateOwned,
	}
	want := [...]int{16, 40, 6, 6, 6, 1000000, 3, 1000000, 1, 2, 3, 4, 1, 2, 3}
	if got != want {
		t.Errorf("constants are %v", got)
	}
}

func TestGateFitsNumber(t *testing.T) {
	checkFits(t, impl.GateField{Kind: impl.GateNumber, Least: 5, Most: 20}, []fitsCase{
		{"4", false}, {"5", true}, {"12", true}, {"20", true}, {"21", false}, {"0", false},
		{"", false}, {"05", false}, {"012", false}, {"+5", false}, {"-5", false},
		{" 5", false}, {"5 ", false}, {"5.0", false}, {"0x9", false}, {"1_0", false}, {"a", false}, {"٧", false},
	})
	checkFits(t, impl.GateField{Kind: impl.GateNumber, Least: 0, Most: 0}, []fitsCase{
		{"0", true}, {"00", false}, {"1", false}, {"-0", false}, {"", false},
	})
}

func TestGateFitsDecimalsOfSevenDigits(t *testing.T) {
	checkFits(t, impl.GateField{Kind: impl.GateNumber, Least: math.MinInt, Most: math.MaxInt}, []fitsCase{
		{"999999", true}, {"1000000", true}, {"9999999", true}, {"10000000", false}, {"99999999", false},
		{"0000001", false}, {"00000001", false}, {strings.Repeat("9", 40), false}, {"-1", false},
		{"1234567", true}, {"123456:", false}, {"123456/", false}, {":", false}, {"/", false},
	})
	checkFits(t, impl.GateField{Kind: impl.GateNumber, Least: 0, Most: impl.GateMaxNumber}, []fitsCase{
		{"1000000", true}, {"1000001", false}, {"0", true},
	})
	checkFits(t, impl.GateField{Kind: impl.GateNumber, Least: 9, Most: 3}, []fitsCase{
		{"3", false}, {"5", false}, {"9", false},
	})
}

func TestGateFitsWord(t *testing.T) {
	checkFits(t, impl.GateField{Kind: impl.GateWord, Words: []string{"big", "small"}}, []fitsCase{
		{"big", true}, {"small", true}, {"", false}, {"bi", false}, {"bigg", false}, {"BIG", false}, {"medium", false},
	})
	checkFits(t, impl.GateField{Kind: impl.GateWord}, []fitsCase{{"", false}, {"a", false}})
	// The row alone counts: words that no ok shape has are words all the same, but for the empty text.
	checkFits(t, impl.GateField{Kind: impl.GateWord, Words: []string{"", "Z z", "a"}}, []fitsCase{
		{"", false}, {"Z z", true}, {"a", true},
	})
}

func TestGateFitsText(t *testing.T) {
	checkFits(t, impl.GateField{Kind: impl.GateText, Least: 2, Most: 4}, []fitsCase{
		{"", false}, {"a", false}, {"ab", true}, {"abcd", true}, {"abcde", false},
		{"!~", true}, {"a b", false}, {"a\x7f", false}, {"a\x1f", false}, {"\x00a", false}, {"a\x80", false}, {"é", false}, {"ab ", false},
	})
	checkFits(t, impl.GateField{Kind: impl.GateText, Least: 0, Most: 2}, []fitsCase{{"", false}, {"a", true}})
	checkFits(t, impl.GateField{Kind: impl.GateText, Least: -1, Most: 100}, []fitsCase{
		{"", false}, {letters(41), true}, {letters(100), true}, {letters(101), false},
	})
}

func TestGateFitsTextOfEveryByte(t *testing.T) {
	f := impl.GateField{Kind: impl.GateText, Least: 1, Most: 1}
	for c := range 256 {
		value := string([]byte{byte(c)})
		if got := impl.GateFits(f, value); got != (c >= 33 && c <= 126) {
			t.Errorf("byte %d: %v", c, got)
		}
	}
}

func TestGateFitsLink(t *testing.T) {
	checkFits(t, impl.GateField{Kind: impl.GateLink}, []fitsCase{
		{"", false}, {"a", true}, {"-", true}, {"0", true}, {"b-1", true},
		{letters(impl.GateMaxName), true}, {letters(impl.GateMaxName + 1), false},
		{"B", false}, {"a b", false}, {"a_b", false}, {"a.b", false}, {"é", false},
	})
}

func TestGateFitsLinkOfEveryByte(t *testing.T) {
	f := impl.GateField{Kind: impl.GateLink}
	for c := range 256 {
		want := c >= 'a' && c <= 'z' || c >= '0' && c <= '9' || c == '-'
		for _, value := range []string{string([]byte{byte(c)}), string([]byte{'a', byte(c)})} {
			if got := impl.GateFits(f, value); got != want {
				t.Errorf("byte %d: %v", c, got)
			}
		}
	}
}

func TestGateFitsLooksAtItsRowAlone(t *testing.T) {
	full := impl.GateField{Name: "NO NAME", Least: 1, Most: 3, Words: []string{"w"}, To: "?", Role: 9, Must: true, Fixed: true, Default: "\x00", Weighs: "!"}
	for kind, want := range map[int]map[string]bool{
		impl.GateNumber: {"1": true, "3": true, "4": false, "w": false},
		impl.GateWord:   {"w": true, "1": false, "a": false},
		impl.GateText:   {"1": true, "abc": true, "abcd": false},
		impl.GateLink:   {"abcd": true, "w": true, "!": false},
	} {
		f := full
		f.Kind = kind
		for value, ok := range want {
			if got := impl.GateFits(f, value); got != ok {
				t.Errorf("Kind %d, %q: %v", kind, value, got)
			}
		}
	}
}

func TestGateFitsAnotherKind(t *testing.T) {
	for _, kind := range []int{0, 5, -1, 6, math.MinInt, math.MaxInt} {
		f := impl.GateField{Kind: kind, Least: 0, Most: 9, Words: []string{"a", "1"}, To: "a", Role: 1}
		checkFits(t, f, []fitsCase{{"", false}, {"a", false}, {"1", false}})
	}
}

// oneField is a list of two shapes, the second with that field.
func oneField(f impl.GateField) []impl.GateShape {
	return []impl.GateShape{{Kind: "a"}, {Kind: "b", Fields: []impl.GateField{f}}}
}

func goodField(kind int) impl.GateField {
	switch kind {
	case impl.GateNumber:
		return impl.GateField{Name: "f", Kind: kind, Least: 2, Most: 9}
	case impl.GateWord:
		return impl.GateField{Name: "f", Kind: kind, Words: []string{"x", "y"}}
	case impl.GateText:
		return impl.GateField{Name: "f", Kind: kind, Least: 1, Most: 4}
	}
	return impl.GateField{Name: "f", Kind: kind, To: "a", Role: impl.GateHolds}
}

func checkField(t *testing.T, what string, f impl.GateField, want bool) {
	t.Helper()
	if got := impl.GateShapesOk(oneField(f)); got != want {
		t.Errorf("%s: GateShapesOk is %v of %+v", what, got, f)
	}
}

type fieldCase struct {
	what string
	want bool
	turn func(f *impl.GateField)
}

func checkFields(t *testing.T, kind int, cases []fieldCase) {
	t.Helper()
	for _, c := range cases {
		f := goodField(kind)
		c.turn(&f)
		checkField(t, c.what, f, c.want)
	}
}

func TestGateShapesOkOrdinary(t *testing.T) {
	if !impl.GateShapesOk(nil) || !impl.GateShapesOk([]impl.GateShape{}) {
		t.Error("no shapes are ok")
	}
	if !impl.GateShapesOk(harbourShapes()) {
		t.Error("the harbour's shapes are ok")
	}
	for kind := impl.GateNumber; kind <= impl.GateLink; kind++ {
		checkField(t, "a good field", goodField(kind), true)
	}
}

func manyShapes(n int) []impl.GateShape {
	list := []impl.GateShape{}
	for i := range n {
		list = append(list, impl.GateShape{Kind: "k" + string(rune('0'+i))})
	}
	return list
}

func TestGateShapesOkCountsShapes(t *testing.T) {
	if !impl.GateShapesOk(manyShapes(impl.GateMaxShapes)) {
		t.Error("GateMaxShapes shapes are ok")
	}
	if impl.GateShapesOk(manyShapes(impl.GateMaxShapes + 1)) {
		t.Error("one more is not")
	}
}

func TestGateShapesOkKinds(t *testing.T) {
	for _, c := range []struct {
		kinds []string
		want  bool
	}{
		{[]string{"a", "b", "c"}, true}, {[]string{"b", "a"}, false}, {[]string{"a", "a"}, false}, {[]string{"a", "c", "b"}, false},
		{[]string{"a", "a-", "aa"}, true}, {[]string{"aa", "a"}, false}, {[]string{"9", "a"}, true}, {[]string{"-", "0"}, true},
		{[]string{""}, false}, {[]string{"A"}, false}, {[]string{"a", "b c"}, false},
		{[]string{letters(impl.GateMaxName)}, true}, {[]string{letters(impl.GateMaxName + 1)}, false},
	} {
		list := []impl.GateShape{}
		for _, kind := range c.kinds {
			list = append(list, impl.GateShape{Kind: kind})
		}
		if got := impl.GateShapesOk(list); got != c.want {
			t.Errorf("%q: %v", c.kinds, got)
		}
	}
}

func manyFields(n int) []impl.GateShape {
	shape := impl.GateShape{Kind: "k"}
	for i := range n {
		shape.Fields = append(shape.Fields, impl.GateField{Name: "f" + string(rune('9'-i)), Kind: impl.GateNumber})
	}
	return []impl.GateShape{shape}
}

func TestGateShapesOkCountsFields(t *testing.T) {
	if !impl.GateShapesOk(manyFields(impl.GateMaxFields)) {
		t.Error("GateMaxFields fields, in any order, are ok")
	}
	if impl.GateShapesOk(manyFields(impl.GateMaxFields + 1)) {
		t.Error("one more is not")
	}
}

func TestGateShapesOkNamesOfFields(t *testing.T) {
	for _, c := range []struct {
		name string
		want bool
	}{
		{"f", true}, {"-", true}, {"0", true}, {"", false}, {"F", false}, {"a b", false},
		{letters(impl.GateMaxName), true}, {letters(impl.GateMaxName + 1), false},
	} {
		f := goodField(impl.GateNumber)
		f.Name = c.name
		checkField(t, "name", f, c.want)
	}
	for place := range 3 {
		list := manyFields(4)
		list[0].Fields[3].Name = list[0].Fields[place].Name
		if impl.GateShapesOk(list) {
			t.Errorf("fields %d and 3 have one name", place)
		}
	}
	shared := []impl.GateShape{
		{Kind: "a", Fields: []impl.GateField{goodField(impl.GateNumber)}},
		{Kind: "b", Fields: []impl.GateField{goodField(impl.GateText)}},
	}
	if !impl.GateShapesOk(shared) {
		t.Error("fields of two shapes may have one name")
	}
}

func TestGateShapesOkKindsOfFields(t *testing.T) {
	for _, kind := range []int{0, 5, -1, math.MinInt, math.MaxInt} {
		checkField(t, "another Kind", impl.GateField{Name: "f", Kind: kind}, false)
	}
}

func TestGateShapesOkWhatAKindDoesNotUse(t *testing.T) {
	parts := map[string]func(f *impl.GateField){
		"Least":  func(f *impl.GateField) { f.Least = 1 },
		"Most":   func(f *impl.GateField) { f.Most = 3 },
		"Words":  func(f *impl.GateField) { f.Words = []string{"a"} },
		"To":     func(f *impl.GateField) { f.To = "a" },
		"Role":   func(f *impl.GateField) { f.Role = impl.GateHolds },
		"Weighs": func(f *impl.GateField) { f.Weighs = "a" },
	}
	uses := map[int]string{
		impl.GateNumber: "Least Most Weighs",
		impl.GateWord:   "Words",
		impl.GateText:   "Least Most",
		impl.GateLink:   "To Role",
	}
	for kind, used := range uses {
		for part, turn := range parts {
			f := goodField(kind)
			turn(&f)
			checkField(t, part, f, strings.Contains(used, part))
		}
		below := goodField(kind)
		below.Least, below.Most = -1, -1
		checkField(t, "Least and Most below 0", below, false)
		empty := goodField(kind)
		if kind != impl.GateWord {
			empty.Words = []string{}
		}
		checkField(t, "the empty list is nothing", empty, true)
	}
}

func TestGateShapesOkMustAndFixed(t *testing.T) {
	for kind := impl.GateNumber; kind <= impl.GateLink; kind++ {
		f := goodField(kind)
		f.Must, f.Fixed = true, true
		checkField(t, "Must and Fixed", f, true)
	}
}

func TestGateShapesOkNumbers(t *testing.T) {
	bounds := func(least, most int) func(f *impl.GateField) {
		return func(f *impl.GateField) { f.Least, f.Most = least, most }
	}
	weighs := func(name string) func(f *impl.GateField) {
		return func(f *impl.GateField) { f.Weighs = name }
	}
	checkFields(t, impl.GateNumber, []fieldCase{
		{"nothing", true, bounds(0, 0)},
		{"all", true, bounds(0, impl.GateMaxNumber)},
		{"the end", true, bounds(impl.GateMaxNumber, impl.GateMaxNumber)},
		{"Most above", false, bounds(0, impl.GateMaxNumber+1)},
		{"Least below", false, bounds(-1, 5)},
		{"Least above Most", false, bounds(6, 5)},
		{"far below", false, bounds(math.MinInt, math.MinInt)},
		{"far above", false, bounds(math.MaxInt, math.MaxInt)},
		{"Weighs empty", true, weighs("")},
		{"Weighs a name", true, weighs("room-1")},
		{"Weighs a long name", true, weighs(letters(impl.GateMaxName))},
		{"Weighs too long", false, weighs(letters(impl.GateMaxName + 1))},
		{"Weighs no name", false, weighs("Room")},
	})
}

func TestGateShapesOkWords(t *testing.T) {
	words := func(list ...string) func(f *impl.GateField) {
		return func(f *impl.GateField) { f.Words = list }
	}
	checkFields(t, impl.GateWord, []fieldCase{
		{"none", false, words()},
		{"one", true, words("a")},
		{"GateMaxWords", true, words("a", "b", "c", "d", "e", "f")},
		{"one more", false, words("a", "b", "c", "d", "e", "f", "g")},
		{"twice", false, words("a", "a")},
		{"descending", false, words("b", "a")},
		{"descending behind", false, words("a", "c", "b")},
		{"a beginning ahead", true, words("a", "ab", "b")},
		{"a beginning behind", false, words("ab", "a")},
		{"the empty text", false, words("", "a")},
		{"no name", false, words("A", "a")},
		{"no name behind", false, words("a", "b c")},
		{"a long name", true, words(letters(impl.GateMaxName))},
		{"too long", false, words(letters(impl.GateMaxName + 1))},
	})
}

func TestGateShapesOkTexts(t *testing.T) {
	bounds := func(least, most int) func(f *impl.GateField) {
		return func(f *impl.GateField) { f.Least, f.Most = least, most }
	}
	checkFields(t, impl.GateText, []fieldCase{
		{"least", true, bounds(1, 1)},
		{"all", true, bounds(1, impl.GateMaxValue)},
		{"the end", true, bounds(impl.GateMaxValue, impl.GateMaxValue)},
		{"Most above", false, bounds(1, impl.GateMaxValue+1)},
		{"Least 0", false, bounds(0, 4)},
		{"Least below", false, bounds(-1, 4)},
		{"Least above Most", false, bounds(5, 4)},
		{"nothing", false, bounds(0, 0)},
	})
}

func TestGateShapesOkLinks(t *testing.T) {
	link := func(to string, role int, must bool, value string) func(f *impl.GateField) {
		return func(f *impl.GateField) { f.To, f.Role, f.Must, f.Default = to, role, must, value }
	}
	checkFields(t, impl.GateLink, []fieldCase{
		{"holds", true, link("a", impl.GateHolds, false, "")},
		{"holds, Must", true, link("a", impl.GateHolds, true, "")},
		{"leans", true, link("a", impl.GateLeans, false, "")},
		{"leans, Must", false, link("a", impl.GateLeans, true, "")},
		{"owned", true, link("a", impl.GateOwned, false, "")},
		{"owned, Must", true, link("a", impl.GateOwned, true, "")},
		{"to its own kind", true, link("b", impl.GateOwned, false, "")},
		{"to no kind", false, link("c", impl.GateHolds, false, "")},
		{"to nothing", false, link("", impl.GateHolds, false, "")},
		{"no role", false, link("a", 0, false, "")},
		{"role 4", false, link("a", 4, false, "")},
		{"role below", false, link("a", -1, false, "")},
		{"holds, Default", false, link("a", impl.GateHolds, false, "x")},
		{"leans, Default", false, link("a", impl.GateLeans, false, "x")},
		{"owned, Default", false, link("a", impl.GateOwned, true, "x")},
	})
	forward := []impl.GateShape{{Kind: "a", Fields: []impl.GateField{{Name: "f", Kind: impl.GateLink, To: "b", Role: impl.GateHolds}}}, {Kind: "b"}}
	if !impl.GateShapesOk(forward) {
		t.Error("a link to a later shape is ok")
	}
	if impl.GateShapesOk(forward[:1]) {
		t.Error("a link to a shape behind the end of the list is not")
	}
}

func TestGateShapesOkDefaults(t *testing.T) {
	for kind, values := range map[int]map[string]bool{
		impl.GateNumber: {"": true, "2": true, "9": true, "1": false, "10": false, "02": false, "x": false},
		impl.GateWord:   {"": true, "x": true, "y": true, "z": false, "X": false},
		impl.GateText:   {"": true, "a": true, "!~!~": true, "abcde": false, "a b": false},
	} {
		for value, want := range values {
			f := goodField(kind)
			f.Default = value
			checkField(t, "Default", f, want)
			f.Must = true
			checkField(t, "Default of one that is Must", f, want)
		}
	}
}

func TestGateShapesOkLooksAtEveryField(t *testing.T) {
	for place, shape := range harbourShapes() {
		for field := range shape.Fields {
			list := harbourShapes()
			list[place].Fields[field].Kind = 0
			if impl.GateShapesOk(list) {
				t.Errorf("shape %d, field %d", place, field)
			}
		}
		list := harbourShapes()
		list[place].Kind = "no name"
		if impl.GateShapesOk(list) {
			t.Errorf("shape %d", place)
		}
	}
}

func TestGateShapesAreNotChanged(t *testing.T) {
	list := harbourShapes()
	list[0].Fields = append(make([]impl.GateField, 0, 8), list[0].Fields...)
	impl.GateShapesOk(list)
	for _, shape := range list {
		for _, f := range shape.Fields {
			impl.GateFits(f, "big")
			untouchedBehind(t, f.Name, f.Words)
		}
	}
	if !reflect.DeepEqual(list, harbourShapes()) {
		t.Errorf("%+v", list)
	}
	for _, f := range list[0].Fields[len(list[0].Fields):8] {
		if !reflect.DeepEqual(f, impl.GateField{}) {
			t.Errorf("%+v stands behind the end", f)
		}
	}
}
