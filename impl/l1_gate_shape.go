package impl

import "slices"

// Limits of shapes.
const (
	GateMaxName   = 16
	GateMaxValue  = 40
	GateMaxFields = 6
	GateMaxShapes = 6
	GateMaxWords  = 6
	GateMaxNumber = 1000000
)

// Kinds of fields.
const (
	GateNumber = 1
	GateWord   = 2
	GateText   = 3
	GateLink   = 4
)

// Roles of links.
const (
	GateHolds = 1
	GateLeans = 2
	GateOwned = 3
)

// GateField is a field of a shape.
type GateField struct {
	Name    string
	Kind    int
	Least   int
	Most    int
	Words   []string
	To      string
	Role    int
	Must    bool
	Fixed   bool
	Default string
	Weighs  string
}

// GateShape is the fields of a kind.
type GateShape struct {
	Kind   string
	Fields []GateField
}

// gateKind is a field by its row of the table of kinds: each Kind is a type of its own.
type gateKind interface {
	fits(value string) bool
	// bounded says whether what the row names is as the shapes allow it.
	bounded(shapes []GateShape) bool
	// bare says whether what the row does not name is nothing.
	bare() bool
}

type (
	gateNumberField GateField
	gateWordField   GateField
	gateTextField   GateField
	gateLinkField   GateField
)

// GateFits says whether a value fits a field.
func GateFits(f GateField, value string) bool {
	kind, found := gateKindOf(f)
	return found && gateKindFits(kind, value)
}

// GateShapesOk says whether shapes are ok.
func GateShapesOk(list []GateShape) bool {
	if len(list) > GateMaxShapes {
		return false
	}
	for i, shape := range list {
		if !gateIsName(shape.Kind) || i > 0 && list[i-1].Kind >= shape.Kind {
			return false
		}
		if !gateFieldsOk(list, shape.Fields) {
			return false
		}
	}
	return true
}

func gateFieldsOk(list []GateShape, fields []GateField) bool {
	if len(fields) > GateMaxFields {
		return false
	}
	for i, f := range fields {
		if !gateIsName(f.Name) || gateFieldPlace(fields, f.Name) < i || !gateFieldOk(list, f) {
			return false
		}
	}
	return true
}

func gateFieldOk(list []GateShape, f GateField) bool {
	kind, found := gateKindOf(f)
	if !found || !kind.bare() || !kind.bounded(list) {
		return false
	}
	return f.Default == "" || gateKindFits(kind, f.Default)
}

func gateKindOf(f GateField) (gateKind, bool) {
	makers := map[int]func(GateField) gateKind{
		GateNumber: func(f GateField) gateKind { return gateNumberField(f) },
		GateWord:   func(f GateField) gateKind { return gateWordField(f) },
		GateText:   func(f GateField) gateKind { return gateTextField(f) },
		GateLink:   func(f GateField) gateKind { return gateLinkField(f) },
	}
	maker, found := makers[f.Kind]
	if !found {
		return nil, false
	}
	return maker(f), true
}

// gateKindFits stands ahead of every row: the empty text is "not set", so it fits none, though Words or a Least of 0 might let it in.
func gateKindFits(kind gateKind, value string) bool {
	return value != "" && kind.fits(value)
}

func (f gateNumberField) fits(value string) bool {
	number, ok := gateDecimal(value)
	return ok && f.Least <= number && number <= f.Most
}

func (f gateNumberField) bounded(shapes []GateShape) bool {
	return 0 <= f.Least && f.Least <= f.Most && f.Most <= GateMaxNumber && (f.Weighs == "" || gateIsName(f.Weighs))
}

func (f gateNumberField) bare() bool {
	return len(f.Words) == 0 && f.To == "" && f.Role == 0
}

func (f gateWordField) fits(value string) bool {
	return slices.Contains(f.Words, value)
}

func (f gateWordField) bounded(shapes []GateShape) bool {
	return 1 <= len(f.Words) && len(f.Words) <= GateMaxWords && gateAscendingNames(f.Words)
}

func (f gateWordField) bare() bool {
	return f.Least == 0 && f.Most == 0 && f.To == "" && f.Role == 0 && f.Weighs == ""
}

func (f gateTextField) fits(value string) bool {
	if len(value) < f.Least || len(value) > f.Most {
		return false
	}
	for i := range len(value) {
		if value[i] < 33 || value[i] > 126 {
			return false
		}
	}
	return true
}

func (f gateTextField) bounded(shapes []GateShape) bool {
	return 1 <= f.Least && f.Least <= f.Most && f.Most <= GateMaxValue
}

func (f gateTextField) bare() bool {
	return len(f.Words) == 0 && f.To == "" && f.Role == 0 && f.Weighs == ""
}

func (f gateLinkField) fits(value string) bool {
	return gateIsName(value)
}

func (f gateLinkField) bounded(shapes []GateShape) bool {
	if _, found := gateShapeOf(shapes, f.To); !found {
		return false
	}
	if f.Role < GateHolds || f.Role > GateOwned || f.Default != "" {
		return false
	}
	return f.Role != GateLeans || !f.Must
}

func (f gateLinkField) bare() bool {
	return f.Least == 0 && f.Most == 0 && len(f.Words) == 0 && f.Weighs == ""
}

// gateShapeOf is the first shape of a kind.
func gateShapeOf(shapes []GateShape, kind string) (GateShape, bool) {
	for _, shape := range shapes {
		if shape.Kind == kind {
			return shape, true
		}
	}
	return GateShape{}, false
}

// gateFieldPlace is the place of the first field of a name, or -1.
func gateFieldPlace(fields []GateField, name string) int {
	return slices.IndexFunc(fields, func(f GateField) bool { return f.Name == name })
}

func gateIsName(text string) bool {
	return 1 <= len(text) && len(text) <= GateMaxName && gateNameBytes(text)
}

func gateNameBytes(text string) bool {
	for i := range len(text) {
		c := text[i]
		if !('a' <= c && c <= 'z' || '0' <= c && c <= '9' || c == '-') {
			return false
		}
	}
	return true
}

func gateAscendingNames(list []string) bool {
	for i, name := range list {
		if !gateIsName(name) || i > 0 && list[i-1] >= name {
			return false
		}
	}
	return true
}

// gateMaxDigits bounds a decimal, so its number always has room in an int.
const gateMaxDigits = 7

// gateDecimal is the number of a decimal; false if the text is none.
func gateDecimal(text string) (int, bool) {
	if text == "" || len(text) > gateMaxDigits || text[0] == '0' && text != "0" {
		return 0, false
	}
	number := 0
	for i := range len(text) {
		if text[i] < '0' || text[i] > '9' {
			return 0, false
		}
		number = number*10 + int(text[i]-'0')
	}
	return number, true
}
