package impl

import (
	"errors"
	"strconv"
)

// Limits of objects.
const (
	GateMaxHolds   = 3
	GateMaxVersion = 1000000
)

// GateObject is a thing that stands in the book.
type GateObject struct {
	Kind    string
	Name    string
	Team    string
	Values  []string
	Ending  bool
	Holds   []string
	Version int
}

// Codes of what is wrong with an object.
const (
	gateBadObject = 1
	gateNotSet    = 2
	gateNoFit     = 3
	gateFixed     = 4
)

// gateFault is the first thing that is wrong with an object, and the place of the field that has it.
type gateFault struct {
	code  int
	place int
}

func (g gateFault) Error() string {
	return "code " + strconv.Itoa(g.code) + " at field " + strconv.Itoa(g.place)
}

// GateFill fills the values that are not set.
func GateFill(shapes []GateShape, o GateObject) GateObject {
	shape, found := gateOkShapeOf(shapes, o.Kind)
	if !found {
		return gateCopyObject(o)
	}
	return gateFillObject(shape, o)
}

// GateCheck is what is wrong with an object: a code, and the place of a field.
func GateCheck(shapes []GateShape, o GateObject) (int, int) {
	shape, found := gateOkShapeOf(shapes, o.Kind)
	if !found {
		return gateBadObject, 0
	}
	return gateTold(gateCheckObject(shape, o))
}

// GateTurned says whether an object may become another one.
func GateTurned(shapes []GateShape, old GateObject, o GateObject) (int, int) {
	shape, found := gateOkShapeOf(shapes, old.Kind)
	if !found {
		return gateBadObject, 0
	}
	return gateTold(gateTurnObject(shape, old, o))
}

func gateTold(err error) (int, int) {
	var fault gateFault
	if errors.As(err, &fault) {
		return fault.code, fault.place
	}
	return 0, 0
}

// gateFillObject takes the shape to be an ok one of the object's kind, so that who fills many objects looks at the shapes once.
func gateFillObject(shape GateShape, o GateObject) GateObject {
	filled := gateCopyObject(o)
	if len(o.Values) != len(shape.Fields) {
		return filled
	}
	for place, f := range shape.Fields {
		if filled.Values[place] == "" {
			filled.Values[place] = f.Default
		}
	}
	return filled
}

// gateCheckObject takes the shape to be an ok one of the object's kind, so that who checks many objects looks at the shapes once.
func gateCheckObject(shape GateShape, o GateObject) error {
	checks := []func(GateShape, GateObject) error{
		gateCheckNames,
		gateCheckCount,
		gateCheckHolds,
		gateCheckVersion,
		gateCheckValues,
	}
	for _, check := range checks {
		if err := check(shape, o); err != nil {
			return err
		}
	}
	return nil
}

func gateCheckNames(shape GateShape, o GateObject) error {
	return gateBadUnless(gateIsName(o.Name) && gateIsName(o.Team))
}

func gateCheckCount(shape GateShape, o GateObject) error {
	return gateBadUnless(len(o.Values) == len(shape.Fields))
}

func gateCheckHolds(shape GateShape, o GateObject) error {
	return gateBadUnless(len(o.Holds) <= GateMaxHolds && gateAscendingNames(o.Holds))
}

func gateCheckVersion(shape GateShape, o GateObject) error {
	return gateBadUnless(0 <= o.Version && o.Version <= GateMaxVersion)
}

func gateBadUnless(ok bool) error {
	if ok {
		return nil
	}
	return gateFault{code: gateBadObject}
}

// gateCheckValues stands behind gateCheckCount: there is a value for each field.
func gateCheckValues(shape GateShape, o GateObject) error {
	for place, f := range shape.Fields {
		value := o.Values[place]
		if value == "" && f.Must {
			return gateFault{code: gateNotSet, place: place}
		}
		if value != "" && !GateFits(f, value) {
			return gateFault{code: gateNoFit, place: place}
		}
	}
	return nil
}

func gateTurnObject(shape GateShape, old GateObject, o GateObject) error {
	same := old.Kind == o.Kind && old.Name == o.Name && old.Team == o.Team
	if !same || gateCheckObject(shape, old) != nil || gateCheckObject(shape, o) != nil {
		return gateFault{code: gateBadObject}
	}
	for place, f := range shape.Fields {
		if f.Fixed && old.Values[place] != "" && old.Values[place] != o.Values[place] {
			return gateFault{code: gateFixed, place: place}
		}
	}
	return nil
}

// gateOkShapeOf is the shape of a kind; none, if the shapes are not ok.
func gateOkShapeOf(shapes []GateShape, kind string) (GateShape, bool) {
	if !GateShapesOk(shapes) {
		return GateShape{}, false
	}
	return gateShapeOf(shapes, kind)
}

func gateCopyObject(o GateObject) GateObject {
	o.Values = gateCopyTexts(o.Values)
	o.Holds = gateCopyTexts(o.Holds)
	return o
}

// gateCopyTexts appends to nothing: slices.Clone of an empty list would still point into the argument's memory.
func gateCopyTexts(list []string) []string {
	return append([]string(nil), list...)
}
