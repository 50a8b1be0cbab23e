package tests

import (
	"reflect"
	"slices"
	"testing"

	"loop.example/wharfdesk/impl"
)

// shipShapes has a field of every kind in a ship, and fields of the same names in a quay that fit other values.
func shipShapes() []impl.GateShape {
	return []impl.GateShape{
		{Kind: "quay", Fields: []impl.GateField{
			{Name: "size", Kind: impl.GateText, Least: 2, Most: 4},
			{Name: "flag", Kind: impl.GateText, Least: 1, Most: 4},
		}},
		{Kind: "ship", Fields: []impl.GateField{
			{Name: "size", Kind: impl.GateNumber, Most: 9, Default: "1"},
			{Name: "flag", Kind: impl.GateWord, Words: spacious("blue", "red")},
			{Name: "note", Kind: impl.GateText, Least: 1, Most: 8},
			{Name: "at", Kind: impl.GateLink, To: "quay", Role: impl.GateHolds},
			{Name: "crew", Kind: impl.GateText, Least: 1, Most: 8, Default: "few"},
			{Name: "load", Kind: impl.GateText, Least: 1, Most: 8, Must: true, Fixed: true},
		}},
	}
}

func ship(size, flag, note, at, crew, load string) impl.GateObject {
	return impl.GateObject{Kind: "ship", Name: "s", Team: "t", Values: spacious(size, flag, note, at, crew, load), Holds: spacious("h"), Version: 3}
}

func quay(size, flag string) impl.GateObject {
	return impl.GateObject{Kind: "quay", Name: "q", Team: "t", Values: spacious(size, flag)}
}

func put(field, value string) impl.GateMend {
	return impl.GateMend{Kind: "ship", Field: field, Put: value}
}

func from(field, read string) impl.GateMend {
	return impl.GateMend{Kind: "ship", Field: field, From: read}
}

func when(read, is string, m impl.GateMend) impl.GateMend {
	m.When, m.Is = read, is
	return m
}

func ofQuay(m impl.GateMend) impl.GateMend {
	m.Kind = "quay"
	return m
}

type mendList = []impl.GateMend

func TestGateMendsOk(t *testing.T) {
	for what, mends := range map[string]mendList{
		"none":                               nil,
		"an empty list":                      {},
		"Put alone":                          {put("size", "9")},
		"From alone":                         {from("note", "size")},
		"When and Put":                       {when("flag", "red", put("size", "0"))},
		"When and From":                      {when("flag", "red", from("note", "size"))},
		"When and From of one field":         {when("size", "1", from("note", "size"))},
		"Is empty":                           {when("flag", "", put("note", "bare"))},
		"an Is that does not fit":            {when("flag", "no such word", put("note", "x"))},
		"From of another Kind":               {from("size", "flag")},
		"Put by the shape of its own Kind":   {ofQuay(put("size", "99")), put("size", "9")},
		"a fixed Field":                      {put("load", "x")},
		"a mend twice":                       {put("size", "1"), put("size", "1")},
		"mends of one field":                 {put("size", "1"), from("size", "note"), when("crew", "", put("size", "2"))},
		"one field read by two":              {from("note", "crew"), from("load", "crew")},
		"a row that is the fields' order":    {from("flag", "size"), from("note", "flag"), from("crew", "note"), from("load", "crew")},
		"a row that is not":                  {from("size", "flag"), from("flag", "note"), from("note", "crew"), from("crew", "load")},
		"two ways to one field":              {from("size", "flag"), from("size", "note"), from("flag", "crew"), from("note", "crew")},
		"both ways, in two kinds":            {from("size", "flag"), ofQuay(from("flag", "size"))},
		"a circle over two kinds":            {from("size", "flag"), from("flag", "note"), ofQuay(from("flag", "size"))},
		"kinds not in the order of the list": {put("size", "1"), ofQuay(put("size", "11")), put("flag", "red")},
		"as many as there may be":            manyMends(impl.GateMaxMends),
	} {
		if !impl.GateMendsOk(shipShapes(), mends) {
			t.Errorf("%s: not ok", what)
		}
	}
	if !impl.GateMendsOk(nil, nil) {
		t.Error("nothing at all is not ok")
	}
}

func manyMends(n int) []impl.GateMend {
	return slices.Repeat([]impl.GateMend{put("note", "x")}, n)
}

// badMends names each thing for which mends are not ok.
func badMends() map[string]mendList {
	return map[string]mendList{
		"one mend too many":                 manyMends(impl.GateMaxMends + 1),
		"one too many, in two kinds":        append(manyMends(impl.GateMaxMends), ofQuay(put("size", "11"))),
		"a Kind that is not there":          {{Kind: "dock", Field: "size", Put: "1"}},
		"no Kind":                           {{Field: "size", Put: "1"}},
		"a Field that is not there":         {put("mast", "1")},
		"a Field of another Kind alone":     {ofQuay(put("note", "x"))},
		"no Field":                          {put("", "x")},
		"a When that is not there":          {when("mast", "1", put("size", "1"))},
		"a When of another Kind alone":      {when("note", "x", ofQuay(put("size", "11")))},
		"a From that is not there":          {from("size", "mast")},
		"a From of another Kind alone":      {ofQuay(from("size", "note"))},
		"Is without When":                   {when("", "red", put("size", "1"))},
		"Is without When, beside From":      {when("", "red", from("note", "size"))},
		"neither Put nor From":              {put("size", "")},
		"neither Put nor From, with a When": {when("flag", "red", put("size", ""))},
		"both Put and From":                 {{Kind: "ship", Field: "note", Put: "x", From: "size"}},
		"When is Field":                     {when("size", "1", put("size", "2"))},
		"From is Field":                     {from("note", "note")},
		"a link as Field":                   {put("at", "q")},
		"a link as Field, by From":          {from("at", "note")},
		"a link as When":                    {when("at", "q", put("size", "1"))},
		"a link as When, not set":           {when("at", "", put("size", "1"))},
		"a link as From":                    {from("note", "at")},
		"a Put above Most":                  {put("size", "10")},
		"a Put that is no decimal":          {put("size", "01")},
		"a Put that is no word of it":       {put("flag", "green")},
		"a Put too long":                    {put("note", letters(9))},
		"a Put that fits the other Kind":    {ofQuay(put("size", "9"))},
		"the last one wrong":                {put("size", "1"), put("flag", "red"), put("flag", "green")},
		"the first one wrong":               {put("flag", "green"), put("size", "1")},
		"two by When":                       {when("flag", "red", put("size", "1")), when("size", "1", put("flag", "red"))},
		"two by From":                       {from("size", "flag"), from("flag", "size")},
		"two, mixed":                        {from("size", "flag"), when("size", "1", put("flag", "red"))},
		"two, behind one that decides":      {put("size", "1"), from("size", "flag"), from("flag", "size")},
		"two, in the kind that comes first": {put("size", "1"), ofQuay(from("size", "flag")), ofQuay(from("flag", "size"))},
		"three by When":                     {when("flag", "", put("size", "1")), when("note", "x", put("flag", "red")), when("size", "2", put("note", "y"))},
		"three by From":                     {from("size", "flag"), from("flag", "note"), from("note", "size")},
		"three, mixed":                      {from("size", "flag"), when("note", "x", put("flag", "red")), from("note", "size")},
		"three, and others that are none":   {from("crew", "load"), from("size", "flag"), from("flag", "note"), from("note", "size"), when("crew", "a", put("size", "3"))},
		"When in a row, From in a circle":   {when("crew", "a", from("size", "flag")), when("crew", "b", from("flag", "size"))},
		"From in a row, When in a circle":   {when("flag", "a", from("size", "crew")), when("size", "1", from("flag", "crew"))},
		"five":                              {from("size", "flag"), from("flag", "note"), from("note", "crew"), from("crew", "load"), from("load", "size")},
	}
}

func TestGateMendsNotOk(t *testing.T) {
	for what, mends := range badMends() {
		if impl.GateMendsOk(shipShapes(), mends) {
			t.Errorf("%s: ok", what)
		}
	}
	for what, shapes := range map[string][]impl.GateShape{
		"shapes not ok":                 badShips(),
		"shapes not in order":           {shipShapes()[1], shipShapes()[0]},
		"a link to a kind not there":    {shipShapes()[1]},
		"shapes of which one is double": {shipShapes()[0], shipShapes()[0], shipShapes()[1]},
	} {
		if impl.GateMendsOk(shapes, nil) || impl.GateMendsOk(shapes, mendList{put("note", "x")}) {
			t.Errorf("%s: ok", what)
		}
	}
	if impl.GateMendsOk(nil, mendList{put("note", "x")}) {
		t.Error("a mend without a shape is ok")
	}
}

// badShips is not ok by a field that no mend and no ship's value goes by.
func badShips() []impl.GateShape {
	list := shipShapes()
	list[0].Fields[1].Role = impl.GateHolds
	return list
}

func TestGateMended(t *testing.T) {
	for _, c := range []struct {
		what  string
		mends mendList
		o     impl.GateObject
		want  []string
	}{
		{"no mends", nil, ship("", "red", "", "", "", ""), []string{"", "red", "", "", "", ""}},
		{"Put", mendList{put("size", "4")}, ship("3", "", "", "", "", ""), []string{"4", "", "", "", "", ""}},
		{"Put where it is not set", mendList{put("size", "4")}, ship("", "", "", "", "", ""), []string{"4", "", "", "", "", ""}},
		{"When has Is", mendList{when("flag", "red", put("size", "4"))}, ship("3", "red", "", "", "", ""), []string{"4", "red", "", "", "", ""}},
		{"When has another value", mendList{when("flag", "red", put("size", "4"))}, ship("3", "blue", "", "", "", ""), []string{"3", "blue", "", "", "", ""}},
		{"When is not set", mendList{when("flag", "red", put("size", "4"))}, ship("3", "", "", "", "", ""), []string{"3", "", "", "", "", ""}},
		{"Is empty, When not set", mendList{when("flag", "", put("size", "4"))}, ship("3", "", "", "", "", ""), []string{"4", "", "", "", "", ""}},
		{"Is empty, When set", mendList{when("flag", "", put("size", "4"))}, ship("3", "red", "", "", "", ""), []string{"3", "red", "", "", "", ""}},
		{"From", mendList{from("note", "crew")}, ship("", "", "old", "", "new", ""), []string{"", "", "new", "", "new", ""}},
		{"From not set", mendList{from("note", "crew")}, ship("", "", "old", "", "", ""), []string{"", "", "old", "", "", ""}},
		{"From not set, a later one decides", mendList{from("note", "crew"), put("note", "x")}, ship("", "", "old", "", "", ""), []string{"", "", "x", "", "", ""}},
		{"From has what does not fit", mendList{from("size", "note")}, ship("3", "", "what", "", "", ""), []string{"what", "", "what", "", "", ""}},
		{"From has what fits nothing", mendList{from("note", "crew")}, ship("", "", "a", "", "x y\x00", ""), []string{"", "", "x y\x00", "", "x y\x00", ""}},
		{"When and From both", mendList{when("flag", "red", from("note", "crew"))}, ship("", "red", "old", "", "new", ""), []string{"", "red", "new", "", "new", ""}},
		{"When without From", mendList{when("flag", "red", from("note", "crew"))}, ship("", "red", "old", "", "", ""), []string{"", "red", "old", "", "", ""}},
		{"From without When", mendList{when("flag", "red", from("note", "crew"))}, ship("", "blue", "old", "", "new", ""), []string{"", "blue", "old", "", "new", ""}},
		{"Is empty of the From", mendList{when("crew", "", from("note", "crew"))}, ship("", "", "old", "", "", ""), []string{"", "", "old", "", "", ""}},
		{"the first decides", mendList{put("note", "x"), put("note", "y")}, ship("", "", "", "", "", ""), []string{"", "", "x", "", "", ""}},
		{"the first that applies decides", mendList{when("flag", "red", put("note", "x")), when("flag", "blue", put("note", "y")), put("note", "z"), when("flag", "blue", put("note", "w"))}, ship("", "blue", "", "", "", ""), []string{"", "blue", "y", "", "", ""}},
		{"none applies", mendList{when("flag", "red", put("note", "x")), from("note", "crew"), when("size", "2", put("note", "z"))}, ship("1", "blue", "own", "", "", ""), []string{"1", "blue", "own", "", "", ""}},
		{"one that leaves the value decides", mendList{from("note", "crew"), put("note", "x")}, ship("", "", "few", "", "few", ""), []string{"", "", "few", "", "few", ""}},
		{"mends of other fields between", mendList{when("flag", "red", put("note", "x")), put("crew", "c"), put("note", "y"), put("load", "l")}, ship("", "", "", "q", "", ""), []string{"", "", "y", "q", "c", "l"}},
		{"in the fields' order", mendList{from("flag", "size"), from("note", "flag"), from("crew", "note"), from("load", "crew")}, ship("7", "a", "b", "q", "c", "d"), []string{"7", "7", "7", "q", "7", "7"}},
		{"against the fields' order", mendList{from("size", "flag"), from("flag", "note"), from("note", "crew"), from("crew", "load")}, ship("7", "a", "b", "q", "c", "d"), []string{"d", "d", "d", "q", "d", "d"}},
		{"across it", mendList{from("flag", "load"), from("size", "note"), from("note", "flag"), from("crew", "size")}, ship("7", "a", "b", "q", "c", "d"), []string{"d", "d", "d", "q", "d", "d"}},
		{"When has Is by a mend", mendList{when("crew", "all", put("size", "9")), put("crew", "all")}, ship("1", "", "", "", "few", ""), []string{"9", "", "", "", "all", ""}},
		{"When has Is by a mend no more", mendList{when("crew", "few", put("size", "9")), put("crew", "all")}, ship("1", "", "", "", "few", ""), []string{"1", "", "", "", "all", ""}},
		{"From is set by a mend", mendList{from("size", "crew"), put("crew", "all")}, ship("1", "", "", "", "", ""), []string{"all", "", "", "", "all", ""}},
		{"which decides hangs on a mend", mendList{when("note", "b", put("size", "2")), when("note", "a", put("size", "3")), when("flag", "red", put("note", "b")), put("flag", "red")}, ship("1", "blue", "a", "", "", ""), []string{"2", "red", "b", "", "", ""}},
		{"mends of several kinds, a ship", mendList{ofQuay(put("size", "11")), put("size", "2"), ofQuay(from("flag", "size")), from("note", "size")}, ship("1", "red", "", "", "", ""), []string{"2", "red", "2", "", "", ""}},
		{"mends of several kinds, a quay", mendList{ofQuay(put("size", "11")), put("size", "2"), ofQuay(from("flag", "size")), from("note", "size")}, quay("22", "x"), []string{"11", "11"}},
		{"mends of the other kind alone", mendList{put("size", "2"), put("flag", "red")}, quay("22", "x"), []string{"22", "x"}},
	} {
		want := c.o
		want.Values = c.want
		if got := impl.GateMended(shipShapes(), c.mends, c.o); !sameObject(got, want) {
			t.Errorf("%s: %q", c.what, got.Values)
		}
	}
}

func TestGateShaped(t *testing.T) {
	for _, c := range []struct {
		what  string
		mends mendList
		o     impl.GateObject
		want  []string
	}{
		{"no mends", nil, ship("", "", "", "", "", ""), []string{"1", "", "", "", "few", ""}},
		{"set", nil, ship("2", "red", "n", "q", "all", "l"), []string{"2", "red", "n", "q", "all", "l"}},
		{"When has its default", mendList{when("size", "1", put("note", "small"))}, ship("", "", "", "", "", ""), []string{"1", "", "small", "", "few", ""}},
		{"When has a default, so it is set", mendList{when("size", "", put("note", "bare"))}, ship("", "", "", "", "", ""), []string{"1", "", "", "", "few", ""}},
		{"From has its default", mendList{from("note", "crew")}, ship("", "", "", "", "", ""), []string{"1", "", "few", "", "few", ""}},
		{"From has no default", mendList{from("note", "flag")}, ship("", "", "", "", "", ""), []string{"1", "", "", "", "few", ""}},
		{"a default is mended", mendList{put("crew", "all"), from("load", "crew")}, ship("", "", "", "", "", ""), []string{"1", "", "", "", "all", "all"}},
		{"a default stays without a mend", mendList{when("flag", "red", put("crew", "all"))}, ship("", "blue", "", "", "", ""), []string{"1", "blue", "", "", "few", ""}},
	} {
		want := c.o
		want.Values = c.want
		if got := impl.GateShaped(shipShapes(), c.mends, c.o); !sameObject(got, want) {
			t.Errorf("%s: %q", c.what, got.Values)
		}
	}
}

func TestGateMendedKeepsWhatIsNoObject(t *testing.T) {
	o := ship("", "", "", "", "", "")
	o.Name, o.Team, o.Version, o.Ending, o.Holds = "NO NAME", "", -4, true, []string{"z", "a"}
	want := o
	want.Values = []string{"2", "", "", "", "few", ""}
	if got := impl.GateShaped(shipShapes(), mendList{put("size", "2")}, o); !sameObject(got, want) {
		t.Errorf("the values of an object that GateCheck refuses are mended: %+v", got)
	}
}

func TestGateMendedGivesTheObjectAsItIs(t *testing.T) {
	good := mendList{put("note", "x"), from("load", "crew")}
	o := ship("", "red", "n", "", "", "l")
	o.Ending = true
	few, many, none, other := o, o, o, o
	few.Values = o.Values[:5]
	many.Values = spacious("", "red", "n", "", "", "l", "")
	none.Values = nil
	other.Kind = "dock"
	type asItIs struct {
		what   string
		shapes []impl.GateShape
		mends  mendList
		o      impl.GateObject
	}
	cases := []asItIs{
		{"shapes not ok", badShips(), good, o},
		{"shapes not ok, no mends", badShips(), nil, o},
		{"no shapes", nil, good, o},
		{"no shapes, no mends", nil, nil, o},
		{"no shape of its Kind", shipShapes(), good, other},
		{"too few values", shipShapes(), good, few},
		{"too many values", shipShapes(), good, many},
		{"no values", shipShapes(), good, none},
		{"nothing", shipShapes(), good, impl.GateObject{}},
	}
	for what, mends := range badMends() {
		cases = append(cases, asItIs{what, shipShapes(), append(mendList{put("note", "x")}, mends...), o})
	}
	for _, c := range cases {
		if got := impl.GateMended(c.shapes, c.mends, c.o); !sameObject(got, c.o) {
			t.Errorf("%s: mended, %+v", c.what, got)
		}
		if got := impl.GateShaped(c.shapes, c.mends, c.o); !sameObject(got, c.o) {
			t.Errorf("%s: shaped, %+v", c.what, got)
		}
	}
}

func TestGateMendedSharesNoMemory(t *testing.T) {
	wrong, empty := ship("", "", "", "", "", ""), ship("", "", "", "", "", "")
	wrong.Values = spacious("1")
	empty.Values, empty.Holds = spacious(), spacious()
	shapes := shipShapes()
	for _, mends := range []mendList{nil, {put("size", "2")}, {put("size", "x")}} {
		for _, o := range []impl.GateObject{ship("1", "red", "n", "q", "c", "l"), wrong, empty} {
			for _, got := range []impl.GateObject{impl.GateMended(shapes, mends, o), impl.GateShaped(shapes, mends, o), impl.GateShaped(nil, mends, o)} {
				for _, mine := range [][]string{got.Values, got.Holds} {
					if shareMemory(mine, o.Values) || shareMemory(mine, o.Holds) || shareMemory(mine, shapes[1].Fields[1].Words) {
						t.Errorf("the answer to %+v shares memory with an argument", o)
					}
				}
				if shareMemory(got.Values, got.Holds) {
					t.Errorf("two lists of the answer to %+v share memory", o)
				}
			}
		}
	}
}

func TestGateMendsChangeNoArgument(t *testing.T) {
	behind := impl.GateMend{Kind: sentinel}
	for _, mends := range []mendList{{put("size", "2"), from("note", "crew"), when("note", "few", put("load", "x"))}, {from("note", "note")}} {
		roomy := append(make(mendList, 0, len(mends)+1), mends...)
		roomy[:cap(roomy)][len(mends)] = behind
		shapes, o := shipShapes(), ship("", "red", "n", "q", "", "")
		impl.GateMendsOk(shapes, roomy)
		impl.GateMended(shapes, roomy, o)
		impl.GateShaped(shapes, roomy, o)
		if !reflect.DeepEqual(shapes, shipShapes()) || !sameObject(o, ship("", "red", "n", "q", "", "")) || !slices.Equal(roomy, mends) {
			t.Errorf("an argument was changed: %+v, %+v, %+v", shapes, roomy, o)
		}
		if roomy[:cap(roomy)][len(mends)] != behind {
			t.Error("something was written behind the mends")
		}
		untouchedBehind(t, "values", o.Values)
		untouchedBehind(t, "holds", o.Holds)
		untouchedBehind(t, "words", shapes[1].Fields[1].Words)
	}
}
