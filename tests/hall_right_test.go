package tests

import (
	"fmt"
	"math"
	"slices"
	"testing"

	"loop.example/wharfdesk/impl"
)

// hallFixedBy is the document's sentence on what is fixed.
func hallFixedBy(w hallWorld) texts {
	var row texts
	if !hallWorldIsOk(w) {
		return nil
	}
	for {
		at := slices.IndexFunc(w.Rec.Fixed, func(fix impl.RecFix) bool { return fix.Index == len(row)+1 })
		if at < 0 {
			return row
		}
		row = append(row, w.Rec.Fixed[at].Text)
	}
}

// hallIsRightBy is the document's sentence on when all is right.
func hallIsRightBy(w hallWorld) bool {
	if !hallWorldIsOk(w) || !recAgreeAsRead(w.Rec) {
		return false
	}
	row := hallFixedBy(w)
	for _, heard := range w.Asked {
		if heard.To == 0 {
			continue
		}
		if said, told := impl.HallTold(w.House, row, heard.Text); !told || said != heard.Said {
			return false
		}
		for _, other := range w.Asked {
			at := slices.Index(row, other.Text)
			if other.From > heard.To && at >= 0 && at <= slices.Index(row, heard.Text) {
				return false
			}
		}
	}
	return true
}

// hallIsDoneBy is the document's sentence on when all is done.
func hallIsDoneBy(w hallWorld) bool {
	ups := recUps(w.Rec)
	if !hallWorldIsOk(w) || len(ups) == 0 {
		return false
	}
	row := texts(impl.RecBook(w.Rec.Recorders[ups[0]]))
	b := impl.HallState(w.House, row)
	law := hallLawOf(w.House.Teams)
	return stewDoneBy(b.Stew) && len(impl.GateMark(law, b.Gate))+len(impl.GateGoing(law, b.Gate)) == 0 && all(ups, func(at int) bool {
		r := w.Rec.Recorders[at]
		return len(r.Wishes) == 0 && r.Disk.Known == len(r.Disk.Slots) && slices.Equal(impl.RecBook(r), row)
	})
}

func checkFixed(t *testing.T, what string, w hallWorld, want texts) {
	t.Helper()
	w = spread(w)
	before := whole(w)
	got := impl.HallFixed(w)
	if !slices.Equal(got, want) || !slices.Equal(hallFixedBy(w), want) {
		t.Errorf("%s: %q, read as %q, not %q", what, got, hallFixedBy(w), want)
	}
	if !same(whole(w), before) {
		t.Errorf("%s: the world is changed", what)
	}
	newMemory(t, what, got, w, impl.HallFixed(w))
}

func hallFixes(list ...impl.RecFix) hallTurn {
	return func(w *hallWorld) { w.Rec.Fixed = list }
}

func TestHallFixed(t *testing.T) {
	w := impl.HallNew(hallHouse(), 3)
	for _, c := range []struct {
		indices []int
		many    int
	}{
		{nil, 0}, {[]int{1}, 1}, {[]int{2}, 0}, {[]int{120}, 0}, {[]int{2, 3}, 0}, {[]int{1, 2}, 2}, {[]int{1, 3}, 1}, {[]int{1, 2, 3, 5, 6, 7}, 3},
		{[]int{1, 2, 4, 6}, 2}, {[]int{1, 120}, 1}, {recUpTo(1, 119), 119}, {recUpTo(1, 120), 120}, {recUpTo(2, 120), 0}, {append(recUpTo(1, 60), recUpTo(62, 120)...), 60},
	} {
		var row texts
		for index := 1; index <= c.many; index++ {
			row = append(row, fmt.Sprint("f", index))
		}
		checkFixed(t, fmt.Sprint(c.indices), hallWith(w, hallFixes(recFixesAt(c.indices...)...)), row)
	}
	checkFixed(t, "what recorders know", hallKnowing(hallWebReady(), nil), hallWebReady())
	checkFixed(t, "known, and not fixed", hallWith(hallKnowing(hallWebReady()), hallFixes()), nil)
	checkFixed(t, "an empty text, and one twice", hallWith(w, hallFixes(recFix(1, ""), recFix(2, "a"), recFix(3, ""), recFix(4, "a"))), texts{"", "a", "", "a"})
	checkFixed(t, "a port", hallPort(), hallWebReady())
	for what, w := range hallNotOk() {
		checkFixed(t, what, w, nil)
	}
}

// checkSaysOf says what is answered of a world, which stays as it is.
func checkSaysOf[W any](t *testing.T, what string, w W, says, reads func(w W) bool, want bool) {
	t.Helper()
	w = spread(w)
	before := whole(w)
	if got := says(w); got != want || reads(w) != want {
		t.Errorf("%s: %v, read as %v", what, got, reads(w))
	}
	if !same(whole(w), before) {
		t.Errorf("%s: the world is changed", what)
	}
}

func checkRight(t *testing.T, what string, w hallWorld, want bool) {
	t.Helper()
	checkSaysOf(t, what, w, impl.HallRight, hallIsRightBy, want)
}

// hallAnswers are the answers to the texts of hallAnswered, as they are told.
func hallAnswers() map[string]impl.GateSaid {
	return map[string]impl.GateSaid{
		hallWebMade: {Version: 4}, "sea 3 tick": {Version: 5}, "sea 9 sink b9": {Code: 14, Place: 3},
		"slip 3 d1 3 * ann end web 3": {Code: 5, Version: 4}, "time 5": {}, "slip 4 d1 3 * ann end web 4": {Version: 5}, "sea 1 raise b1": {Version: 1},
	}
}

// hallAnswered is a row of texts; sea 9 sink b9 stands there twice, and would be told something else behind the second raise.
func hallAnswered() texts {
	return inOneRow(hallWebReady(), "sea 9 sink b9", "no entry", "slip 3 d1 3 * ann end web 3", "sea 8 raise b9", "time 5", "slip 4 d1 3 * ann end web 4", "sea 9 sink b9")
}

func TestHallRightAnswers(t *testing.T) {
	row := hallAnswered()
	w := hallWith(hallKnowing(row, row[:4], nil), hallAt(40))
	checkRight(t, "nothing asked", w, true)
	checkRight(t, "new", impl.HallNew(hallHouse(), 5), true)
	checkRight(t, "a port", hallPort(), true)
	var all []impl.HallAsked
	for text, said := range hallAnswers() {
		heard := impl.HallAsked{Text: text, From: 3, To: 20, Said: said}
		all = append(all, heard)
		checkRight(t, text, hallWith(w, hallWaits(heard)), true)
		checkRight(t, text+", not heard", hallWith(w, hallWaits(impl.HallAsked{Text: text, From: 3})), true)
		for what, turn := range map[string]func(said *impl.GateSaid){
			"another Code":    func(said *impl.GateSaid) { said.Code++ },
			"another Place":   func(said *impl.GateSaid) { said.Place++ },
			"another Version": func(said *impl.GateSaid) { said.Version-- },
		} {
			wrong := heard
			turn(&wrong.Said)
			checkRight(t, text+": "+what, hallWith(w, hallWaits(wrong)), false)
			checkRight(t, text+": "+what+", behind others", hallWith(w, hallWaits(impl.HallAsked{Text: "time 6", From: 1}, wrong)), false)
		}
		if said != (impl.GateSaid{}) {
			checkRight(t, text+": nothing was said", hallWith(w, hallWaits(impl.HallAsked{Text: text, From: 3, To: 20})), false)
		}
		// One whose text does not stand there.
		short := slices.Index(row, text)
		checkRight(t, text+", not fixed", hallWith(hallKnowing(row[:short], nil), hallAt(40), hallWaits(heard)), false)
		checkRight(t, text+", just fixed", hallWith(hallKnowing(row[:short+1], nil), hallAt(40), hallWaits(heard)), true)
		checkRight(t, text+", not fixed and not heard", hallWith(hallKnowing(row[:short], nil), hallAt(40), hallWaits(impl.HallAsked{Text: text, From: 3})), true)
	}
	checkRight(t, "all of them", hallWith(w, hallWaits(all...)), true)
	for at := range all {
		wrong := slices.Clone(all)
		wrong[at].Said.Version += 7
		checkRight(t, fmt.Sprint("all of them, but at ", at), hallWith(w, hallWaits(wrong...)), false)
	}
	// What is fixed may be known by nobody; what stands behind a place that is missing does not count.
	unknown := hallWith(hallKnowing(nil, nil), hallAt(40), hallFixes(w.Rec.Fixed...))
	checkRight(t, "known by nobody", hallWith(unknown, hallWaits(all...)), true)
	time := impl.HallAsked{Text: "time 5", From: 3, To: 20}
	checkRight(t, "fixed behind a gap", hallWith(unknown, hallWaits(time), hallFixes(recFix(1, "sea 1 raise b1"), recFix(3, "time 5"))), false)
	checkRight(t, "fixed ahead of a gap", hallWith(unknown, hallWaits(time), hallFixes(recFix(1, "sea 1 raise b1"), recFix(2, "time 5"), recFix(4, "time 6"))), true)
	checkRight(t, "fixed behind the first place that is missing", hallWith(unknown, hallWaits(time), hallFixes(recFix(2, "time 5"))), false)
}

// Two texts, of which the one stands ahead of the other, behind it, or nowhere; asked ahead of the answer, with it, and behind it.
func TestHallRightOrder(t *testing.T) {
	heard := impl.HallAsked{Text: "time 5", From: 3, To: 20}
	for what, row := range map[string]texts{
		"ahead":         {"time 6", "time 5"},
		"far ahead":     {"time 6", "time 1", "no entry", "time 2", "time 5", "time 3"},
		"behind":        {"time 5", "time 6"},
		"far behind":    {"time 1", "time 5", "time 2", "", "time 3", "time 6"},
		"nowhere":       {"time 1", "time 5", "time 2"},
		"ahead, twice":  {"time 6", "time 5", "time 6"},
		"behind, twice": {"time 5", "time 6", "time 5", "time 6"},
		"between":       {"time 5", "time 6", "time 5"},
	} {
		isAhead := what[:3] == "ahe" || what == "far ahead"
		for _, from := range []int{0, 1, 3, 4, 19, 20, 21, 22, 39, 40} {
			want := !isAhead || from <= 20
			w := hallWith(hallKnowing(row, nil), hallAt(40))
			open := impl.HallAsked{Text: "time 6", From: from}
			checkRight(t, fmt.Sprintf("%s, from %d", what, from), hallWith(w, hallWaits(heard, open)), want)
			checkRight(t, fmt.Sprintf("%s, from %d, turned around", what, from), hallWith(w, hallWaits(open, heard)), want)
			checkRight(t, fmt.Sprintf("%s, from %d, among others", what, from), hallWith(w, hallWaits(impl.HallAsked{Text: "time 99", From: 40}, open, impl.HallAsked{Text: "time 98"}, heard)), want)
			if from < 40 && what != "nowhere" {
				both := open
				both.To = 40
				checkRight(t, fmt.Sprintf("%s, from %d, and heard", what, from), hallWith(w, hallWaits(both, heard)), want)
			}
		}
	}
	// The later one is heard, and nothing was asked behind that.
	w := hallWith(hallKnowing(texts{"time 6", "time 5"}), hallAt(40))
	checkRight(t, "the earlier one is not heard", hallWith(w, hallWaits(impl.HallAsked{Text: "time 5", From: 3}, impl.HallAsked{Text: "time 6", From: 21, To: 30})), true)
	checkRight(t, "each is asked ahead of the other's answer", hallWith(w, hallWaits(impl.HallAsked{Text: "time 5", From: 3, To: 22}, impl.HallAsked{Text: "time 6", From: 21, To: 30})), true)
	last := hallWith(w, hallAt(math.MaxInt), hallWaits(impl.HallAsked{Text: "time 5", From: 3, To: math.MaxInt - 1}, impl.HallAsked{Text: "time 6", From: math.MaxInt}))
	checkRight(t, "at the last Now", last, false)
}

func TestHallRightAgree(t *testing.T) {
	row := hallAnswered()
	w := hallWith(hallKnowing(row, row[:4], nil), hallAt(40), hallWaits(impl.HallAsked{Text: "time 5", From: 3, To: 20}))
	checkRight(t, "agreed", w, true)
	for at := range row {
		fixed := slices.Clone(w.Rec.Fixed)
		fixed[at].Text = "time 77"
		checkRight(t, fmt.Sprint("another one is fixed at ", at), hallWith(w, hallWaits(), hallFixes(fixed...)), false)
		checkRight(t, fmt.Sprint("none is fixed at ", at), hallWith(w, hallWaits(), hallFixes(slices.Delete(slices.Clone(w.Rec.Fixed), at, at+1)...)), false)
	}
	checkRight(t, "another one is known", hallWith(w, hallOne(1, func(r *impl.Recorder) { r.Disk.Slots[2].Text = "time 77" })), false)
	checkRight(t, "another one is known by one that is down", hallWith(w, hallOne(1, recIsDown, func(r *impl.Recorder) { r.Disk.Slots[2].Text = "time 77" })), false)
	for what, w := range hallNotOk() {
		checkRight(t, what, w, false)
	}
}

func checkDone(t *testing.T, what string, w hallWorld, want bool) {
	t.Helper()
	checkSaysOf(t, what, w, impl.HallDone, hallIsDoneBy, want)
}

func TestHallDone(t *testing.T) {
	ready := hallWebReady()
	w := hallKnowing(ready, ready, ready)
	checkDone(t, "all know it", w, true)
	for n := 1; n <= 5; n++ {
		checkDone(t, fmt.Sprint("new, of ", n), impl.HallNew(hallHouse(), n), true)
	}
	nobody := hallWith(w, hallOne(0, recIsDown), hallOne(1, recIsDown), hallOne(2, recIsDown))
	checkDone(t, "nobody is Up", nobody, false)
	checkDone(t, "nobody is Up, and it is new", hallWith(impl.HallNew(hallHouse(), 1), hallOne(0, recIsDown)), false)
	wishes := func(r *impl.Recorder) { r.Wishes = texts{"time 1"} }
	more := func(r *impl.Recorder) { r.Disk.Slots = append(r.Disk.Slots, recSlot(9, "time 1")) }
	empty := func(r *impl.Recorder) { r.Disk.Slots = append(r.Disk.Slots, recSlot(0, "")) }
	for at := range 3 {
		alone := hallWith(nobody, hallOne(at, func(r *impl.Recorder) { r.Up = true }))
		checkDone(t, fmt.Sprint("one alone is Up, at ", at), alone, true)
		checkDone(t, fmt.Sprint("one leads, at ", at), hallWith(w, hallOne(at, recLeads)), true)
		checkDone(t, fmt.Sprint("wishes of one that is Up, at ", at), hallWith(w, hallOne(at, wishes)), false)
		// One that is down has none in a world that is ok.
		checkDone(t, fmt.Sprint("wishes of one that is down, at ", at), hallWith(w, hallOne(at, wishes, recIsDown)), false)
		for what, turn := range map[string]recTurn{"a slot more": more, "an empty slot more": empty, "one known less": recKnows(4), "another text": func(r *impl.Recorder) { r.Disk.Slots[4].Text = "sea 4 tick" }, "a text less": func(r *impl.Recorder) { r.Disk.Known, r.Disk.Slots = 4, r.Disk.Slots[:4] }} {
			checkDone(t, fmt.Sprintf("%s, at %d", what, at), hallWith(w, hallOne(at, turn)), false)
			checkDone(t, fmt.Sprintf("%s, down, at %d", what, at), hallWith(w, hallOne(at, turn, recIsDown)), true)
		}
		checkDone(t, fmt.Sprint("another Safe disk, at ", at), hallWith(w, hallOne(at, func(r *impl.Recorder) { r.Safe = impl.RecDisk{} })), true)
	}
	checkDone(t, "nothing is fixed", hallWith(w, hallFixes()), true)
	checkDone(t, "something is waited for, and in flight", hallWith(w, hallAt(9), hallWaits(hallTimes(9)...), func(w *hallWorld) { w.Rec.Flight = recMany(600) }), true)
	checkDone(t, "a port", hallPort(), false)
	for what, w := range hallNotOk() {
		checkDone(t, what, w, false)
	}
}

// Whether the books are done to which the row leads that all know.
func TestHallDoneBooks(t *testing.T) {
	ready := hallWebReady()
	idle := texts{"slip 1 d1 3 * ann make own dev audit,fleet 1,0,,,,", "slip 1 d1 3 * ann make sub dev fleet 1,0,,,,own"}
	marked := inOneRow(idle, "slip 1 d1 3 * ann end own 0", "act 3 own 3 0 * * drop")
	swept := inOneRow(marked, "sweep 1", "act 5 sub 5 0 * * drop")
	for _, c := range []struct {
		what string
		row  texts
		want bool
	}{
		{"no texts", nil, true},
		{"texts that are not read", texts{"", "no entry"}, true},
		{"a berth", ready[:1], true},
		{"made", ready[:2], false},
		{"created", ready[:3], false},
		{"starting", ready[:4], false},
		{"ready", ready, true},
		{"failed", inOneRow(ready, "sea 4 fails web 1"), false},
		{"to be drained", inOneRow(ready, "sea 4 drain b1"), false},
		{"sunk", inOneRow(ready, "sea 4 sink b1"), false},
		{"Gone", inOneRow(ready, "slip 2 d1 3 * ann end web 0"), false},
		{"of no copies", idle, true},
		{"Gone, of no copies", marked[:3], false},
		{"something goes", hallSwept(), false},
		{"it is gone", inOneRow(hallSwept(), "sweep 1"), true},
		{"something is marked", marked, false},
		{"it is marked no longer", swept[:5], false},
		{"it goes", swept, false},
		{"it is gone, and its owner is kept", inOneRow(swept, "sweep 2"), true},
		{"its owner goes", inOneRow(swept, "sweep 2", "slip 9 d1 3 * ann letgo own audit"), false},
		{"both are gone", inOneRow(swept, "sweep 2", "slip 9 d1 3 * ann letgo own audit", "sweep 3"), true},
	} {
		for n := 1; n <= 3; n++ {
			checkDone(t, fmt.Sprintf("%s, of %d", c.what, n), hallKnowing(slices.Repeat([]texts{c.row}, n)...), c.want)
		}
		checkDone(t, c.what+", one behind is down", hallWith(hallKnowing(c.row, ready[:1]), hallOne(1, recIsDown)), c.want)
	}
	// A mark and a going are what is left to do, each by itself, in a fleet that is done.
	law := hallLawOf(hallHouse().Teams)
	for what, row := range map[string]texts{"mark": marked, "going": hallSwept()} {
		b := impl.HallState(hallHouse(), row)
		if marks, goes := len(impl.GateMark(law, b.Gate)), len(impl.GateGoing(law, b.Gate)); !impl.StewDone(b.Stew) || marks != map[string]int{"mark": 1}[what] || goes != map[string]int{"going": 1}[what] {
			t.Errorf("%s: %d marked, %d go: %+v", what, marks, goes, b)
		}
	}
}
