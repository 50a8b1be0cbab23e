package tests

import (
	"reflect"
	"strings"
	"testing"
	"unsafe"

	"loop.example/wharfdesk/impl"
)

// Each stands behind the end of a list that is handed in, where nothing may be written.
const sentinel = "behind the end"

// spacious is a list with room behind its end that append would write into.
func spacious(list ...string) []string {
	roomy := append(make([]string, 0, len(list)+3), list...)
	behind := roomy[len(list):cap(roomy)]
	for i := range behind {
		behind[i] = sentinel
	}
	return roomy
}

func untouchedBehind(t *testing.T, what string, list []string) {
	t.Helper()
	for _, text := range list[len(list):cap(list)] {
		if text != sentinel {
			t.Errorf("%s: %q was written behind its end", what, text)
		}
	}
}

// memoryOf is where the room of a list begins and ends, what is spare included.
func memoryOf(list []string) (uintptr, uintptr) {
	start := uintptr(unsafe.Pointer(unsafe.SliceData(list)))
	return start, start + uintptr(cap(list))*unsafe.Sizeof("")
}

func shareMemory(a, b []string) bool {
	if cap(a) == 0 || cap(b) == 0 {
		return false
	}
	aStart, aEnd := memoryOf(a)
	bStart, bEnd := memoryOf(b)
	return aStart < bEnd && bStart < aEnd
}

func sameTexts(a, b []string) bool {
	return len(a) == len(b) && (len(a) == 0 || reflect.DeepEqual(a, b))
}

func sameObject(a, b impl.GateObject) bool {
	if !sameTexts(a.Values, b.Values) || !sameTexts(a.Holds, b.Holds) {
		return false
	}
	a.Values, a.Holds, b.Values, b.Holds = nil, nil, nil, nil
	return reflect.DeepEqual(a, b)
}

func letters(n int) string {
	return strings.Repeat("a", n)
}

// harbourShapes has a field of every kind, a link of every role, and a default where one is allowed.
func harbourShapes() []impl.GateShape {
	return []impl.GateShape{
		{Kind: "berth", Fields: []impl.GateField{
			{Name: "room", Kind: impl.GateNumber, Least: 1, Most: 64, Must: true, Weighs: "room"},
			{Name: "zone", Kind: impl.GateWord, Words: spacious("east", "north", "west"), Default: "north"},
			{Name: "sign", Kind: impl.GateText, Least: 2, Most: 5, Fixed: true},
		}},
		{Kind: "crew", Fields: nil},
		{Kind: "job", Fields: []impl.GateField{
			{Name: "need", Kind: impl.GateNumber, Most: 32, Default: "1", Must: true, Fixed: true},
			{Name: "mode", Kind: impl.GateWord, Words: spacious("big", "small"), Must: true, Fixed: true},
			{Name: "on", Kind: impl.GateLink, To: "berth", Role: impl.GateHolds, Must: true},
			{Name: "by", Kind: impl.GateLink, To: "job", Role: impl.GateLeans, Fixed: true},
			{Name: "of", Kind: impl.GateLink, To: "crew", Role: impl.GateOwned},
			{Name: "note", Kind: impl.GateText, Least: 1, Most: 8, Default: "none"},
		}},
	}
}

func harbourJob() impl.GateObject {
	return impl.GateObject{
		Kind: "job", Name: "j-1", Team: "ops",
		Values:  spacious("3", "big", "b-1", "", "", ""),
		Holds:   spacious("clean", "count"),
		Ending:  true,
		Version: 7,
	}
}
