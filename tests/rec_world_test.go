package tests

import (
	"fmt"
	"math"
	"slices"
	"testing"

	"loop.example/wharfdesk/impl"
)

type recWorldTurn = func(*impl.RecWorld)

// recPort is ok, with something in each list: of three, the first leads, the second tries, and the third is not Up. All that is told of the places is in Fixed.
func recPort() impl.RecWorld {
	leader := impl.Recorder{
		Number: 1, Of: 3, Up: true, Lead: true, Ballot: 7, Heard: 3,
		Safe:   impl.RecDisk{Promise: 7, Known: 1, Slots: recSlots(recSlot(4, "a"), recSlot(7, "b"))},
		Disk:   impl.RecDisk{Promise: 7, Known: 1, Slots: recSlots(recSlot(4, "a"), recSlot(7, "b"), recSlot(7, "c"))},
		Held:   []impl.RecMessage{{Kind: impl.RecChosen, From: 1, To: 3, Ballot: 7, Index: 1, Text: "a"}},
		Wishes: []string{"c", "w"},
		Acks:   []impl.RecAck{{Index: 2, From: []int{1}}},
	}
	trier := impl.Recorder{
		Number: 2, Of: 3, Up: true, Trying: true, Ballot: 8, Heard: 1,
		Safe:   impl.RecDisk{Promise: 5, Slots: recSlots(recSlot(4, "a"))},
		Disk:   impl.RecDisk{Promise: 8, Known: 1, Slots: recSlots(recSlot(4, "a"), recSlot(5, "e"))},
		Held:   recToOthers(2, 3, impl.RecMessage{Kind: impl.RecPrepare, Ballot: 8}),
		Wishes: []string{"y"},
		Yes:    []int{2},
		Best:   recSlots(recSlot(4, "a"), recSlot(5, "e")),
	}
	disk := impl.RecDisk{Promise: 4, Slots: recSlots(recSlot(4, "a"))}
	return impl.RecWorld{
		Recorders: []impl.Recorder{leader, trier, {Number: 3, Of: 3, Safe: disk, Disk: disk}},
		Flight: []impl.RecMessage{
			{Kind: impl.RecBeat, From: 1, To: 2, Ballot: 7, Known: 1},
			{Kind: impl.RecPromised, From: 3, To: 2, Ballot: 8, Slots: recSlots(recSlot(4, "a"), recSlot(0, ""), recSlot(2, "g"))},
			{Kind: impl.RecAccept, From: 1, To: 3, Ballot: 7, Index: 2, Text: "b"},
			{Kind: impl.RecWished, From: 3, To: 1, Text: "x"},
			{Kind: impl.RecAccepted, From: 3, To: 1, Ballot: 7, Index: 2},
		},
		Fixed: []impl.RecFix{{Index: 1, Text: "a"}},
	}
}

// recWorldWith is a world, turned.
func recWorldWith(w impl.RecWorld, turns ...recWorldTurn) impl.RecWorld {
	w = spread(w)
	for _, turn := range turns {
		turn(&w)
	}
	return w
}

// recOne turns the recorder at a place.
func recOne(at int, turns ...recTurn) recWorldTurn {
	return func(w *impl.RecWorld) { w.Recorders[at] = recWith(w.Recorders[at], turns...) }
}

func recFlies(list ...impl.RecMessage) recWorldTurn {
	return func(w *impl.RecWorld) { w.Flight = list }
}

func recFixes(list ...impl.RecFix) recWorldTurn {
	return func(w *impl.RecWorld) { w.Fixed = list }
}

// recRow is so many new recorders, of a number of them that may be another.
func recRow(n, of int) []impl.Recorder {
	var row []impl.Recorder
	for number := 1; number <= n; number++ {
		row = append(row, impl.Recorder{Number: number, Of: of, Up: true})
	}
	return row
}

// recMany are so many messages, each with a text that tells its place.
func recMany(n int) []impl.RecMessage {
	var list []impl.RecMessage
	for i := range n {
		list = append(list, impl.RecMessage{Kind: impl.RecWished, From: 1, To: 1, Text: fmt.Sprint("m", i)})
	}
	return list
}

func recCheckWorld(t *testing.T, what string, w impl.RecWorld, want bool) {
	t.Helper()
	w = spread(w)
	before := whole(w)
	if got := impl.RecWorldOk(w); got != want {
		t.Errorf("%s: %v", what, got)
	}
	if got := recWorldIsOk(w); got != want {
		t.Errorf("%s: %v by the second reading", what, got)
	}
	if !same(whole(w), before) {
		t.Errorf("%s: the world was changed", what)
	}
}

func TestRecNewWorld(t *testing.T) {
	for _, n := range []int{math.MinInt, -1000, -5, -2, -1, 0, 1, 2, 3, 4, 5, 6, 7, 120, 1000000, math.MaxInt} {
		isOne := n >= 1 && n <= 5
		want := impl.RecWorld{}
		if isOne {
			want.Recorders = recRow(n, n)
		}
		got := impl.RecNewWorld(n)
		if !same(got, want) {
			t.Errorf("%d: %+v", n, got)
		}
		newMemory(t, fmt.Sprint(n), got)
		recCheckWorld(t, fmt.Sprint("a new world of ", n), got, isOne)
		if impl.RecAgree(got) != isOne {
			t.Errorf("%d: agreement is %v", n, !isOne)
		}
	}
	if a, b := impl.RecNewWorld(3), impl.RecNewWorld(3); &a.Recorders[0] == &b.Recorders[0] {
		t.Error("two worlds share their recorders")
	}
}

func TestRecWorldOkRecorders(t *testing.T) {
	recCheckWorld(t, "nothing", impl.RecWorld{}, false)
	recCheckWorld(t, "a port", recPort(), true)
	recCheckWorld(t, "no recorder", recWorldWith(recPort(), func(w *impl.RecWorld) { w.Recorders = nil }), false)
	recCheckWorld(t, "no recorder, and no flight", impl.RecWorld{Fixed: recPort().Fixed}, false)
	for n := range 9 {
		for of := range 9 {
			recCheckWorld(t, fmt.Sprintf("%d of %d", n, of), impl.RecWorld{Recorders: recRow(n, of)}, n == of && n >= 1 && n <= 5)
		}
	}
	recCheckWorld(t, "very many", impl.RecWorld{Recorders: recRow(2000, 5)}, false)
	for n := 1; n <= 5; n++ {
		for at := range n {
			for _, number := range []int{math.MinInt, -1, 0, 1, 2, 3, 4, 5, 6, math.MaxInt} {
				row := recRow(n, n)
				row[at].Number = number
				recCheckWorld(t, fmt.Sprintf("of %d, Number %d at %d", n, number, at), impl.RecWorld{Recorders: row}, number == at+1)
			}
			for _, of := range []int{math.MinInt, -1, 0, 1, 2, 3, 4, 5, 6, math.MaxInt} {
				row := recRow(n, n)
				row[at].Of = of
				recCheckWorld(t, fmt.Sprintf("of %d, Of %d at %d", n, of, at), impl.RecWorld{Recorders: row}, of == n)
			}
		}
		row := recRow(n, n)
		slices.Reverse(row)
		recCheckWorld(t, fmt.Sprintf("%d turned around", n), impl.RecWorld{Recorders: row}, n == 1)
	}
	recCheckWorld(t, "all by the Number ahead", impl.RecWorld{Recorders: recRow(4, 4)[1:]}, false)
}

// recOfEachRole is a world of one of each sort.
func recOfEachRole() impl.RecWorld {
	w := impl.RecWorld{}
	for at, made := range []func() impl.Recorder{recAwake, recDown, recLeader, recTrier} {
		r := made()
		r.Number = at + 1
		for i := range r.Held {
			r.Held[i].From = r.Number
		}
		w.Recorders = append(w.Recorders, r)
	}
	return w
}

func TestRecWorldOkOfRecordersThatAreNotValid(t *testing.T) {
	recCheckWorld(t, "one of each sort", recOfEachRole(), true)
	for what, turn := range recSpoilt() {
		// They spoil recorders that are not the first.
		for at := 1; at < 4; at++ {
			recCheckWorld(t, fmt.Sprintf("%s at %d", what, at), recWorldWith(recOfEachRole(), recOne(at, turn)), false)
		}
	}
}

func TestRecWorldOkFlight(t *testing.T) {
	for n, want := range map[int]bool{0: true, 1: true, 599: true, 600: true, 601: false, 602: false, 5000: false} {
		recCheckWorld(t, fmt.Sprint(n, " in flight"), recWorldWith(recPort(), recFlies(recMany(n)...)), want)
		recCheckWorld(t, fmt.Sprint(n, " in flight, of one"), impl.RecWorld{Recorders: recRow(1, 1), Flight: recMany(n)}, want)
	}
	bad := map[string]recMessageTurn{
		"no Kind":             func(m *impl.RecMessage) { m.Kind = 0 },
		"Kind 10":             func(m *impl.RecMessage) { m.Kind = 10 },
		"From nobody":         func(m *impl.RecMessage) { m.From = 0 },
		"From one more":       func(m *impl.RecMessage) { m.From = 4 },
		"To nobody":           func(m *impl.RecMessage) { m.To = 0 },
		"To one more":         func(m *impl.RecMessage) { m.To = 4 },
		"a Ballot below 0":    func(m *impl.RecMessage) { m.Ballot = -1 },
		"a Ballot too high":   func(m *impl.RecMessage) { m.Ballot = 1000001 },
		"an Index of 121":     func(m *impl.RecMessage) { m.Index = 121 },
		"a Known of 121":      func(m *impl.RecMessage) { m.Known = 121 },
		"a Text of 161 bytes": func(m *impl.RecMessage) { m.Text = letters(161) },
		"121 slots":           func(m *impl.RecMessage) { m.Slots = recSome(121, recSlot(1, "a")) },
		"nothing":             func(m *impl.RecMessage) { *m = impl.RecMessage{} },
	}
	for what, turn := range bad {
		for at := range len(recPort().Flight) {
			recCheckWorld(t, fmt.Sprintf("%s at %d", what, at), recWorldWith(recPort(), func(w *impl.RecWorld) { turn(&w.Flight[at]) }), false)
		}
	}
	recCheckWorld(t, "a message to itself", recWorldWith(recPort(), recFlies(impl.RecMessage{Kind: impl.RecBeat, From: 2, To: 2, Ballot: 5})), true)
	recCheckWorld(t, "all that a message may have", recWorldWith(recPort(), recFlies(impl.RecMessage{Kind: 9, From: 3, To: 3, Ballot: 1000000, Index: 120, Known: 120, Text: letters(160), Slots: recSome(120, recSlot(1000000, letters(160)))})), true)
	for n := 1; n <= 5; n++ {
		for number := range 7 {
			ok := number >= 1 && number <= n
			for _, m := range []impl.RecMessage{{Kind: impl.RecNeed, From: number, To: 1}, {Kind: impl.RecNeed, From: 1, To: number}} {
				recCheckWorld(t, fmt.Sprintf("of %d, from %d to %d", n, m.From, m.To), impl.RecWorld{Recorders: recRow(n, n), Flight: []impl.RecMessage{m}}, ok)
			}
		}
	}
}

// recFixesAt are fixed texts at these places.
func recFixesAt(indices ...int) []impl.RecFix {
	var list []impl.RecFix
	for _, index := range indices {
		list = append(list, impl.RecFix{Index: index, Text: fmt.Sprint("f", index)})
	}
	return list
}

// recUpTo are the numbers from the first to the last.
func recUpTo(first, last int) []int {
	var list []int
	for n := first; n <= last; n++ {
		list = append(list, n)
	}
	return list
}

func TestRecWorldOkFixed(t *testing.T) {
	for _, c := range []struct {
		indices []int
		want    bool
	}{
		{nil, true}, {[]int{1}, true}, {[]int{2}, true}, {[]int{119}, true}, {[]int{120}, true}, {[]int{1, 120}, true}, {[]int{3, 4, 9}, true}, {recUpTo(1, 120), true},
		{[]int{0}, false}, {[]int{-1}, false}, {[]int{121}, false}, {[]int{122}, false}, {[]int{math.MinInt}, false}, {[]int{math.MaxInt}, false},
		{[]int{0, 1}, false}, {[]int{120, 121}, false}, {[]int{-1, 5}, false}, {recUpTo(0, 119), false}, {recUpTo(2, 121), false}, {recUpTo(1, 121), false}, {recUpTo(0, 120), false},
		{[]int{1, 1}, false}, {[]int{120, 120}, false}, {[]int{1, 2, 2}, false}, {[]int{1, 1, 2}, false}, {[]int{2, 1}, false}, {[]int{1, 3, 2}, false}, {[]int{3, 1, 2}, false}, {[]int{1, 2, 3, 5, 4}, false}, {[]int{120, 1}, false},
		{slices.Repeat([]int{7}, 120), false}, {slices.Repeat([]int{7}, 500), false},
	} {
		what := fmt.Sprint(c.indices)
		recCheckWorld(t, what, recWorldWith(recPort(), recFixes(recFixesAt(c.indices...)...)), c.want)
		recCheckWorld(t, what+", of one", impl.RecWorld{Recorders: recRow(1, 1), Fixed: recFixesAt(c.indices...)}, c.want)
	}
	for n, want := range map[int]bool{0: true, 1: true, 159: true, 160: true, 161: false, 162: false, 5000: false} {
		for at := range 3 {
			list := recFixesAt(1, 5, 120)
			list[at].Text = letters(n)
			recCheckWorld(t, fmt.Sprintf("%d bytes at %d", n, at), recWorldWith(recPort(), recFixes(list...)), want)
		}
	}
	recCheckWorld(t, "one text twice", recWorldWith(recPort(), recFixes(impl.RecFix{Index: 1, Text: "a"}, impl.RecFix{Index: 2, Text: "a"})), true)
	recCheckWorld(t, "any bytes", recWorldWith(recPort(), recFixes(impl.RecFix{Index: 1, Text: "\xff\x00"})), true)
}

// Nothing ties Fixed to the disks: there may be more of it than anybody has, less, or something else.
func TestRecWorldOkFixedAndDisks(t *testing.T) {
	for what, list := range map[string][]impl.RecFix{
		"none":           nil,
		"something else": {{Index: 1, Text: "other"}},
		"of nobody":      {{Index: 50, Text: "far"}, {Index: 120, Text: "last"}},
		"not the first":  {{Index: 2, Text: "b"}},
	} {
		recCheckWorld(t, what, recWorldWith(recPort(), recFixes(list...)), true)
		recCheckWorld(t, what+", of new ones", impl.RecWorld{Recorders: recRow(4, 4), Fixed: list}, true)
	}
}

// recNotOk is worlds that are not ok, each in but one thing.
func recNotOk() map[string]impl.RecWorld {
	worlds := map[string]impl.RecWorld{
		"nothing":                {},
		"no recorder":            recWorldWith(recPort(), func(w *impl.RecWorld) { w.Recorders = nil }),
		"two of three":           recWorldWith(recPort(), func(w *impl.RecWorld) { w.Recorders = w.Recorders[:2] }),
		"one more":               recWorldWith(recPort(), func(w *impl.RecWorld) { w.Recorders = append(w.Recorders, impl.RecNew(3, 3)) }),
		"six":                    recWorldWith(recPort(), func(w *impl.RecWorld) { w.Recorders = recRow(6, 6) }),
		"one Number twice":       recWorldWith(recPort(), recOne(2, func(r *impl.Recorder) { r.Number = 1 })),
		"another Of":             recWorldWith(recPort(), recOne(2, func(r *impl.Recorder) { r.Of = 4 })),
		"one that is not valid":  recWorldWith(recPort(), recOne(2, func(r *impl.Recorder) { r.Heard = 1 })),
		"601 in flight":          recWorldWith(recPort(), recFlies(recMany(601)...)),
		"a message to nobody":    recWorldWith(recPort(), func(w *impl.RecWorld) { w.Flight[4].To = 4 }),
		"a message of no Kind":   recWorldWith(recPort(), func(w *impl.RecWorld) { w.Flight[1].Kind = 0 }),
		"Fixed not ascending":    recWorldWith(recPort(), recFixes(recFixesAt(2, 1)...)),
		"an Index twice":         recWorldWith(recPort(), recFixes(recFixesAt(1, 1)...)),
		"an Index of 0":          recWorldWith(recPort(), recFixes(recFixesAt(0)...)),
		"an Index of 121":        recWorldWith(recPort(), recFixes(recFixesAt(121)...)),
		"a fixed text too long":  recWorldWith(recPort(), recFixes(impl.RecFix{Index: 1, Text: letters(161)})),
		"a disk that is not one": recWorldWith(recPort(), recOne(0, recKnows(4))),
	}
	for what, turn := range recSpoilt() {
		worlds[what] = recWorldWith(recOfEachRole(), recOne(1+len(what)%3, turn))
	}
	return worlds
}
