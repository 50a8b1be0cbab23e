package tests

import (
	"iter"
	"slices"
	"strconv"
	"testing"

	"loop.example/wharfdesk/impl"
)

// dice makes things up, the same ones in each run.
type dice uint64

func (d *dice) roll(n int) int {
	*d = *d*6364136223846793005 + 1442695040888963407
	return int(uint64(*d) >> 33 % uint64(n))
}

func pick[T any](d *dice, list ...T) T {
	return list[d.roll(len(list))]
}

// Few values, most of which fit most fields, so that mends meet what they ask for.
func (d *dice) value() string {
	return pick(d, "", "", "1", "2", "a", "b", "30")
}

func (d *dice) field(name string) impl.GateField {
	f := impl.GateField{Name: name, Must: d.roll(4) == 0, Fixed: d.roll(4) == 0}
	switch d.roll(6) {
	case 0:
		f.Kind, f.Most, f.Default = impl.GateNumber, 9, pick(d, "", "1", "2")
	case 1:
		f.Kind, f.Words, f.Default = impl.GateWord, []string{"1", "a", "b"}, pick(d, "", "a", "b")
	case 2:
		f.Kind, f.To, f.Role = impl.GateLink, "k0", impl.GateHolds
	default:
		f.Kind, f.Least, f.Most, f.Default = impl.GateText, 1, 2, pick(d, "", "", "1", "a", "30")
	}
	return f
}

func (d *dice) shapes() []impl.GateShape {
	list := make([]impl.GateShape, 1+d.roll(3))
	for i := range list {
		list[i].Kind = "k" + strconv.Itoa(i)
		for j := range d.roll(impl.GateMaxFields + 1) {
			list[i].Fields = append(list[i].Fields, d.field("f"+strconv.Itoa(j)))
		}
	}
	return list
}

func (d *dice) fieldName(shape impl.GateShape) string {
	if len(shape.Fields) == 0 {
		return "f0"
	}
	return pick(d, shape.Fields...).Name
}

func (d *dice) mend(shape impl.GateShape) impl.GateMend {
	m := impl.GateMend{Kind: shape.Kind, Field: d.fieldName(shape)}
	if d.roll(2) == 0 {
		m.When, m.Is = d.fieldName(shape), d.value()
	}
	if d.roll(2) == 0 {
		m.From = d.fieldName(shape)
	} else {
		m.Put = pick(d, "1", "a")
	}
	return m
}

// mends are ok most of the time: one that would spoil them is mostly left out.
func (d *dice) mends(shapes []impl.GateShape) []impl.GateMend {
	var list []impl.GateMend
	wrong := wrongMend(shapes)
	for range d.roll(30) {
		m := d.mend(pick(d, shapes...))
		if wrong(m) && d.roll(40) > 0 {
			continue
		}
		more := append(slices.Clone(list), m)
		if len(more) <= impl.GateMaxMends && (allRowsThere(shapes, more) || d.roll(12) == 0) {
			list = more
		}
	}
	return list
}

func (d *dice) object(shapes []impl.GateShape) impl.GateObject {
	shape := pick(d, shapes...)
	o := impl.GateObject{Kind: shape.Kind, Name: "o", Team: "t"}
	for range shape.Fields {
		o.Values = append(o.Values, d.value())
	}
	return o
}

// wrongMend is the document's list of what a mend must be, without the row.
func wrongMend(shapes []impl.GateShape) func(impl.GateMend) bool {
	return func(m impl.GateMend) bool {
		fields := map[string]impl.GateField{}
		for _, shape := range shapes {
			for _, f := range shape.Fields {
				if shape.Kind == m.Kind && f.Kind != impl.GateLink {
					fields[f.Name] = f
				}
			}
		}
		there := func(name string) bool { return fields[name].Name != "" }
		switch {
		case !there(m.Field), m.When != "" && !there(m.When), m.From != "" && !there(m.From):
			return true
		case m.When == m.Field, m.From == m.Field, m.When == "" && m.Is != "", (m.Put != "") == (m.From != ""):
			return true
		}
		return m.Put != "" && !impl.GateFits(fields[m.Field], m.Put)
	}
}

// rowsOf tries every order of a shape's fields, and goes over those that are rows.
func rowsOf(shape impl.GateShape, mends []impl.GateMend) iter.Seq[[]string] {
	return func(yield func([]string) bool) {
		var grow func(row []string) bool
		grow = func(row []string) bool {
			if len(row) == len(shape.Fields) {
				return yield(row)
			}
			for _, f := range shape.Fields {
				if !slices.Contains(row, f.Name) && readsOnly(row, shape.Kind, f.Name, mends) && !grow(append(slices.Clone(row), f.Name)) {
					return false
				}
			}
			return true
		}
		grow(nil)
	}
}

func readsOnly(row []string, kind, field string, mends []impl.GateMend) bool {
	for _, m := range mends {
		if m.Kind == kind && m.Field == field && (m.When != "" && !slices.Contains(row, m.When) || m.From != "" && !slices.Contains(row, m.From)) {
			return false
		}
	}
	return true
}

func allRowsThere(shapes []impl.GateShape, mends []impl.GateMend) bool {
	return !slices.ContainsFunc(shapes, func(shape impl.GateShape) bool {
		for range rowsOf(shape, mends) {
			return false
		}
		return true
	})
}

func shapeOf(shapes []impl.GateShape, kind string) impl.GateShape {
	return shapes[slices.IndexFunc(shapes, func(s impl.GateShape) bool { return s.Kind == kind })]
}

func namedValues(shape impl.GateShape, o impl.GateObject) map[string]string {
	values := map[string]string{}
	for place, f := range shape.Fields {
		values[f.Name] = o.Values[place]
	}
	return values
}

// decided is what the first mend of a field that applies gives.
func decided(mends []impl.GateMend, kind, field string, values map[string]string) (string, bool) {
	for _, m := range mends {
		if m.Kind != kind || m.Field != field || m.When != "" && values[m.When] != m.Is {
			continue
		}
		if m.From == "" {
			return m.Put, true
		}
		if values[m.From] != "" {
			return values[m.From], true
		}
	}
	return "", false
}

// mendedBy goes by one row.
func mendedBy(row []string, shape impl.GateShape, mends []impl.GateMend, o impl.GateObject) []string {
	values := namedValues(shape, o)
	for _, field := range row {
		if value, found := decided(mends, shape.Kind, field, values); found {
			values[field] = value
		}
	}
	var list []string
	for _, f := range shape.Fields {
		list = append(list, values[f.Name])
	}
	return list
}

func TestGateMendsOkIfThereIsARow(t *testing.T) {
	d := dice(1)
	counts := map[[2]bool]int{}
	for range 4000 {
		shapes := d.shapes()
		mends := d.mends(shapes)
		wrong, rows := slices.ContainsFunc(mends, wrongMend(shapes)), allRowsThere(shapes, mends)
		counts[[2]bool{wrong, rows}]++
		if got := impl.GateMendsOk(shapes, mends); got != (!wrong && rows) {
			t.Fatalf("%v for the shapes %+v and the mends %+v", got, shapes, mends)
		}
	}
	for _, wrong := range []bool{false, true} {
		for _, rows := range []bool{false, true} {
			if counts[[2]bool{wrong, rows}] < 10 {
				t.Errorf("too few with a wrong mend %v and a row %v: %v", wrong, rows, counts)
			}
		}
	}
}

// Promise 1.
func TestGateMendedIsTheSameByEveryRow(t *testing.T) {
	d := dice(2)
	several, turned := 0, 0
	for range 3000 {
		shapes := d.shapes()
		mends := d.mends(shapes)
		o := d.object(shapes)
		if !impl.GateMendsOk(shapes, mends) {
			continue
		}
		shape := shapeOf(shapes, o.Kind)
		got := impl.GateMended(shapes, mends, o)
		rows := 0
		for row := range rowsOf(shape, mends) {
			rows++
			if !sameTexts(got.Values, mendedBy(row, shape, mends, o)) {
				t.Fatalf("%q became %q; by the row %q of %+v and the mends %+v it is %q", o.Values, got.Values, row, shape, mends, mendedBy(row, shape, mends, o))
			}
		}
		last := namedValues(shape, got)
		for field, value := range last {
			if gives, found := decided(mends, shape.Kind, field, last); found && gives != value {
				t.Fatalf("%q became %q, though a mend decides %s by the last values: %+v, %+v", o.Values, got.Values, field, shape, mends)
			}
		}
		if rows > 1 {
			several++
		}
		if !sameTexts(got.Values, o.Values) {
			turned++
		}
	}
	if several < 500 || turned < 500 {
		t.Errorf("too few made-up cases: %d with several rows, %d in which a value is turned", several, turned)
	}
}

// Promise 1: which place a field has does not matter either, as rows go by what is read alone.
func TestGateMendedIsTheSameInEveryOrderOfFields(t *testing.T) {
	d := dice(3)
	for range 2000 {
		shapes := d.shapes()
		mends := d.mends(shapes)
		o := d.object(shapes)
		at := slices.IndexFunc(shapes, func(s impl.GateShape) bool { return s.Kind == o.Kind })
		want := namedValues(shapes[at], impl.GateMended(shapes, mends, o))
		other := slices.Clone(shapes)
		other[at].Fields = slices.Clone(shapes[at].Fields)
		turned := o
		turned.Values = slices.Clone(o.Values)
		for i := range turned.Values {
			j := d.roll(i + 1)
			turned.Values[i], turned.Values[j] = turned.Values[j], turned.Values[i]
			other[at].Fields[i], other[at].Fields[j] = other[at].Fields[j], other[at].Fields[i]
		}
		got := namedValues(other[at], impl.GateMended(other, mends, turned))
		for name, value := range want {
			if got[name] != value {
				t.Fatalf("%s is %q, and %q in another order of the fields: %+v, %+v, %q", name, value, got[name], shapes, mends, o.Values)
			}
		}
	}
}

// Promise 2.
func TestGateShapedStays(t *testing.T) {
	d := dice(4)
	turned, bad := 0, 0
	for range 6000 {
		shapes := d.shapes()
		mends := d.mends(shapes)
		o := d.object(shapes)
		got := impl.GateShaped(shapes, mends, o)
		if !impl.GateMendsOk(shapes, mends) {
			bad++
			if !sameObject(got, o) {
				t.Fatalf("%q became %q by mends that are not ok: %+v, %+v", o.Values, got.Values, shapes, mends)
			}
			continue
		}
		if want := impl.GateMended(shapes, mends, impl.GateFill(shapes, o)); !sameObject(got, want) {
			t.Fatalf("%q became %q; filled and then mended it is %q: %+v, %+v", o.Values, got.Values, want.Values, shapes, mends)
		}
		for what, again := range map[string]impl.GateObject{
			"GateFill":   impl.GateFill(shapes, got),
			"GateMended": impl.GateMended(shapes, mends, got),
			"GateShaped": impl.GateShaped(shapes, mends, got),
		} {
			if !sameObject(again, got) {
				t.Fatalf("%q became %q, and by %s %q: %+v, %+v", o.Values, got.Values, what, again.Values, shapes, mends)
			}
		}
		if !sameTexts(got.Values, o.Values) {
			turned++
		}
	}
	if turned < 1000 || bad < 100 {
		t.Errorf("too few made-up cases: %d in which a value is turned, %d with mends that are not ok", turned, bad)
	}
}
