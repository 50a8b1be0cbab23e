package tests

import (
	"fmt"
	"math"
	"slices"
	"testing"

	"loop.example/wharfdesk/impl"
)

// hallSteppedBy is the document's table of events, read a second time.
func hallSteppedBy(w hallWorld, e hallEvent) hallWorld {
	if !hallWorldIsOk(w) {
		return hallWorld{}
	}
	w.Now, w.Asked = w.Now+1, slices.Clone(w.Asked)
	if e.Kind >= 1 && e.Kind <= 6 {
		w.Rec = recHappenedAsRead(w.Rec, recEvent(e.Kind, e.A))
		return w
	}
	if e.A < 0 || e.A >= len(w.Rec.Recorders) {
		return w
	}
	r := w.Rec.Recorders[e.A]
	known := texts(recTexts(r.Disk.Slots[:r.Disk.Known]))
	wish := func(text string) {
		w.Rec = recHappenedAsRead(w.Rec, impl.RecEvent{Kind: 7, A: e.A, Text: text})
	}
	asked := func(text string) {
		isNew := all(w.Asked, func(a impl.HallAsked) bool { return a.Text != text })
		if isNew && len(w.Asked) == 12 {
			return
		}
		if isNew {
			w.Asked = append(w.Asked, impl.HallAsked{Text: text, From: w.Now})
		}
		wish(text)
	}
	switch {
	case e.Kind == 11:
		if form := hallFormAsRead(e.Entry); form != "" && e.Entry.Kind != 7 && e.Entry.Number <= 500000 {
			asked(form)
		}
	case e.Kind == 12 && r.Up && e.B <= 500000:
		if slip, said := hallSlipBy(w.House, impl.HallState(w.House, known), e.B, e.Door, e.Ask); said.Code == 0 {
			asked(hallFormAsRead(slip))
		}
	case e.Kind == 13 && r.Up:
		for _, act := range hallActsBy(w.House, impl.HallState(w.House, known), e.B) {
			wish(hallFormAsRead(act))
		}
	case e.Kind == 14 && r.Up && e.B >= 0 && e.B < len(w.Asked) && w.Asked[e.B].To == 0:
		if said, told := impl.HallTold(w.House, known, w.Asked[e.B].Text); told {
			w.Asked[e.B].To, w.Asked[e.B].Said = w.Now, said
		}
	}
	return w
}

// checkBecomes says what a call makes of a world, in new memory, the world that is handed in staying as it is; an ok one stays ok, and one that is read as not ok becomes nothing.
func checkBecomes[W any](t *testing.T, what string, w W, isOk, reads func(w W) bool, does func(w W) W, want W) W {
	t.Helper()
	w = spread(w)
	before := whole(w)
	got := does(w)
	if !same(got, want) {
		t.Errorf("%s:\n%+v, not\n%+v", what, got, want)
	}
	var nothing W
	if ok := reads(w); isOk(got) != ok || !ok && !same(got, nothing) {
		t.Errorf("%s: the world behind it: %+v", what, got)
	}
	if !same(whole(w), before) {
		t.Errorf("%s: the world is changed", what)
	}
	newMemory(t, what, got, w, does(w))
	return got
}

// checkHallStep says what an event makes of a world.
func checkHallStep(t *testing.T, what string, w hallWorld, e hallEvent, want hallWorld) hallWorld {
	t.Helper()
	e = spread(e)
	before := whole(e)
	got := checkBecomes(t, what, w, impl.HallWorldOk, hallWorldIsOk, func(w hallWorld) hallWorld { return impl.HallStep(w, e) }, want)
	if !same(whole(e), before) {
		t.Errorf("%s: the event is changed", what)
	}
	newMemory(t, what, got, e)
	if w.Now < math.MaxInt && !same(hallSteppedBy(w, e), want) {
		t.Errorf("%s is read as\n%+v", what, hallSteppedBy(w, e))
	}
	return got
}

// hallHappens says that an event turns a world so, which has one more Now, and not otherwise.
func hallHappens(t *testing.T, what string, w hallWorld, e hallEvent, turns ...hallTurn) hallWorld {
	t.Helper()
	want := hallWith(w, turns...)
	want.Now++
	return checkHallStep(t, what, w, e, want)
}

func TestHallStepOtherKinds(t *testing.T) {
	time, _ := impl.HallRead("time 1")
	for _, kind := range []int{math.MinInt, -14, -11, -1, 0, 7, 8, 9, 10, 15, 16, 100, math.MaxInt} {
		for _, a := range []int{-1, 0, 1, 2, 3, math.MaxInt} {
			e := hallEvent{Kind: kind, A: a, B: 1, Door: "d1", Ask: by("ann", asksEnd("web", 0)), Entry: time}
			hallHappens(t, fmt.Sprintf("Kind %d, A %d", kind, a), hallPort(), e)
			hallHappens(t, fmt.Sprintf("Kind %d, A %d, new", kind, a), impl.HallNew(hallHouse(), 1), e)
		}
	}
}

func TestHallStepNotOk(t *testing.T) {
	time, _ := impl.HallRead("time 1")
	for what, w := range hallNotOk() {
		for _, kind := range []int{-1, 0, 1, 2, 5, 6, 7, 10, 11, 12, 13, 14, 15} {
			for _, a := range []int{-1, 0, 2} {
				checkHallStep(t, fmt.Sprintf("%s, Kind %d, A %d", what, kind, a), w, hallEvent{Kind: kind, A: a, B: 1, Door: "d1", Entry: time}, hallWorld{})
			}
		}
	}
}

// Nobody is there: Now is one more, and nothing else.
func TestHallStepNobodyThere(t *testing.T) {
	time, _ := impl.HallRead("time 1")
	w := hallWith(hallKnowing(hallWebReady(), hallWebReady()), hallAt(7), hallWaits(impl.HallAsked{Text: "sea 2 tick", From: 1}))
	for kind := impl.HallAsks; kind <= impl.HallHear; kind++ {
		for _, a := range []int{math.MinInt, -1000, -2, -1, 2, 3, 5, 1000, math.MaxInt} {
			for b := range 3 {
				e := hallEvent{Kind: kind, A: a, B: b, Door: "d1", Ask: by("ann", asksEnd("web", 0)), Entry: time}
				hallHappens(t, fmt.Sprintf("Kind %d, A %d", kind, a), w, e)
			}
		}
	}
}

// Kinds 1 to 6 are those of recorders; nothing but A is looked at.
func TestHallStepOfRecorders(t *testing.T) {
	time, _ := impl.HallRead("time 1")
	changed := map[int]int{}
	full := hallWith(hallPort(), func(w *hallWorld) {
		for len(w.Rec.Flight) < 600 {
			w.Rec.Flight = append(w.Rec.Flight, w.Rec.Flight...)
			w.Rec.Flight = w.Rec.Flight[:min(600, len(w.Rec.Flight))]
		}
	})
	for what, w := range map[string]hallWorld{"a port": hallPort(), "new": impl.HallNew(hallHouse(), 5), "one": hallKnowing(hallWebReady()), "full": full, "unnoted": hallWith(hallPort(), func(w *hallWorld) { w.Rec.Fixed = nil })} {
		for kind := 1; kind <= 6; kind++ {
			for _, a := range []int{math.MinInt, -1, 0, 1, 2, 3, 4, 5, 599, 600, math.MaxInt} {
				e := hallEvent{Kind: kind, A: a, B: 1, Door: "d1", Ask: by("ann", asksEnd("web", 0)), Entry: time}
				rec := impl.RecDo(w.Rec, recEvent(kind, a))
				hallHappens(t, fmt.Sprintf("%s, Kind %d, A %d", what, kind, a), w, e, func(w *hallWorld) { w.Rec = rec })
				if !same(rec, w.Rec) {
					changed[kind]++
				}
			}
		}
	}
	for kind := 1; kind <= 6; kind++ {
		if changed[kind] < 3 {
			t.Errorf("Kind %d changed something %d times", kind, changed[kind])
		}
	}
}

// hallQuay is ok: three of whom the second knows web, and the third is not Up; nothing was asked yet.
func hallQuay() hallWorld {
	return hallWith(hallKnowing(hallWebReady()[:1], hallWebReady(), hallWebReady()[:2]), hallAt(7), hallOne(2, recIsDown))
}

// hallAsksOf is the event that asks for the entry of a text at a recorder.
func hallAsksOf(t *testing.T, at int, text string) hallEvent {
	t.Helper()
	e, ok := impl.HallRead(text)
	if !ok {
		t.Fatalf("%q is not read", text)
	}
	return hallEvent{Kind: impl.HallAsks, A: at, Entry: e}
}

// hallAskedAt puts a text behind Asked.
func hallAskedAt(from int, text string) hallTurn {
	return func(w *hallWorld) { w.Asked = append(w.Asked, impl.HallAsked{Text: text, From: from}) }
}

func TestHallAsks(t *testing.T) {
	for _, text := range []string{
		"time 1", "sweep 1", "sea 1 tick", "bound 1 dev copies 9", "draw 1 d1 dev copies 9", "back 1 d1 dev copies", "slip 7 d1 9 * nobody take 4", "sea 1 fails web 1",
		"time 499999", "time 500000", "slip 500000 d1 3 web:4 ann end web 0",
	} {
		for at := range 2 {
			hallHappens(t, text, hallQuay(), hallAsksOf(t, at, text), hallAskedAt(8, text), hallWishes(at, text))
		}
		// A recorder that is down wishes for nothing.
		hallHappens(t, text+", down", hallQuay(), hallAsksOf(t, 2, text), hallAskedAt(8, text))
	}
	for _, text := range []string{
		"time 500001", "time 1000000", "sweep 500001", "slip 500001 d1 3 web:4 ann end web 0",
		"act 1 web 3 1 * * *", "act 500000 web 3 1 * * *", "act 500001 web 3 1 * * *", "act 5 web 3 0 * * drop",
	} {
		for at := range 3 {
			hallHappens(t, text, hallQuay(), hallAsksOf(t, at, text))
		}
	}
	for what, e := range map[string]entry{
		"nothing":            {},
		"another Kind":       {Kind: 9, Number: 1},
		"no Number":          {Kind: impl.HallTime},
		"a Number below 0":   {Kind: impl.HallTime, Number: -1},
		"the least Number":   {Kind: impl.HallTime, Number: math.MinInt},
		"a door that is odd": {Kind: impl.HallBack, Number: 1, Door: "D", Team: "dev", Resource: "copies"},
		"too much":           {Kind: impl.HallTime, Number: 1, Door: "d1"},
		"too long":           hallAsked(1, asksMake(letters(16), letters(16), texts{letters(16), letters(16) + "b", letters(16) + "c"}, "1", "2", letters(16), letters(16), letters(16), letters(16)), on("service", letters(16), 0)),
		"a StewWish":         hallAtSea(1, stewWishOf(impl.StewService{Name: "web"})),
	} {
		for at := range 3 {
			hallHappens(t, what, hallQuay(), hallEvent{Kind: impl.HallAsks, A: at, Entry: e})
		}
	}
	// What an event does not use is not looked at.
	e := hallAsksOf(t, 1, "time 1")
	e.B, e.Door, e.Ask = 1000000, "D", by("ann", asksEnd("web", 0))
	hallHappens(t, "with all else", hallQuay(), e, hallAskedAt(8, "time 1"), hallWishes(1, "time 1"))
}

// A text that is waited for already is wished for again, answered or not, wherever it is; Asked stays.
func TestHallAsksAgain(t *testing.T) {
	answered := impl.HallAsked{Text: "time 1", From: 2, To: 5, Said: impl.GateSaid{Code: 2}}
	open := impl.HallAsked{Text: "time 1", From: 2}
	for what, asked := range map[string]impl.HallAsked{"answered": answered, "not answered": open} {
		w := hallWith(hallQuay(), hallWaits(asked))
		hallHappens(t, what, w, hallAsksOf(t, 0, "time 1"), hallWishes(0, "time 1"))
		hallHappens(t, what+", at another one", w, hallAsksOf(t, 1, "time 1"), hallWishes(1, "time 1"))
		hallHappens(t, what+", down", w, hallAsksOf(t, 2, "time 1"))
		hallHappens(t, what+", another text", w, hallAsksOf(t, 0, "time 2"), hallAskedAt(8, "time 2"), hallWishes(0, "time 2"))
		wished := hallWith(w, hallWishes(0, "time 3", "time 1"))
		hallHappens(t, what+", wished for already", wished, hallAsksOf(t, 0, "time 1"))
		// As many as may be, it being one of them, at each place.
		for at := range 12 {
			list := hallTimes(12)
			list[at] = asked
			crowd := hallWith(hallQuay(), hallAt(50), hallWaits(list...))
			hallHappens(t, fmt.Sprint(what, ", the last room taken, at ", at), crowd, hallAsksOf(t, 1, "time 1"), hallWishes(1, "time 1"))
			hallHappens(t, fmt.Sprint(what, ", the last room taken, down, at ", at), crowd, hallAsksOf(t, 2, "time 1"))
		}
	}
	known := hallWith(hallQuay(), hallWaits(impl.HallAsked{Text: "sea 2 tick", From: 2}))
	hallHappens(t, "known already", known, hallAsksOf(t, 1, "sea 2 tick"))
	hallHappens(t, "known already elsewhere", known, hallAsksOf(t, 0, "sea 2 tick"), hallWishes(0, "sea 2 tick"))
	hallHappens(t, "known already, and not waited for", hallQuay(), hallAsksOf(t, 1, "sea 2 tick"), hallAskedAt(8, "sea 2 tick"))
}

func TestHallAsksRoom(t *testing.T) {
	for many := 9; many <= 12; many++ {
		w := hallWith(hallQuay(), hallAt(50), hallWaits(hallTimes(many)...))
		for at := range 3 {
			var turns []hallTurn
			if many < 12 {
				turns = append(turns, hallAskedAt(51, "time 1"))
			}
			if many < 12 && at < 2 {
				turns = append(turns, hallWishes(at, "time 1"))
			}
			hallHappens(t, fmt.Sprint(many, " asked, at ", at), w, hallAsksOf(t, at, "time 1"), turns...)
		}
	}
	// One whose Wishes are full takes no more, but the text is waited for.
	for many := 18; many <= 20; many++ {
		w := hallWith(hallQuay(), hallWishes(0, recManyWishes(many)...))
		turns := []hallTurn{hallAskedAt(8, "time 1")}
		if many < 20 {
			turns = append(turns, hallWishes(0, "time 1"))
		}
		hallHappens(t, fmt.Sprint(many, " wishes"), w, hallAsksOf(t, 0, "time 1"), turns...)
	}
}

// hallThroughOf is the event in which ann asks through d1.
func hallThroughOf(at, number int, a ask) hallEvent {
	if a.Who == "" {
		a.Who = "ann"
	}
	return hallEvent{Kind: impl.HallThrough, A: at, B: number, Door: "d1", Ask: a}
}

func TestHallThrough(t *testing.T) {
	ends, makes := asksEnd("web", 0), asksMake("web", "dev", texts{"fleet"}, "1", "2", "", "", "", "")
	for number, digits := range map[int]string{1: "1", 7: "7", 499999: "499999", 500000: "500000"} {
		text := "slip " + digits + " d1 3 web:4 ann end web 0"
		hallHappens(t, text, hallQuay(), hallThroughOf(1, number, ends), hallAskedAt(8, text), hallWishes(1, text))
		text = "slip " + digits + " d1 3 web:0 ann make web dev fleet 1,2,,,,"
		hallHappens(t, text, hallQuay(), hallThroughOf(0, number, makes), hallAskedAt(8, text), hallWishes(0, text))
	}
	for _, number := range []int{500001, 500002, 1000000, 1000001, math.MaxInt, 0, -1, -500000, math.MinInt} {
		hallHappens(t, fmt.Sprint("the number ", number), hallQuay(), hallThroughOf(1, number, ends))
		hallHappens(t, fmt.Sprint("the number ", number), hallQuay(), hallThroughOf(0, number, makes))
	}
	// The third knows web, but it is down.
	hallHappens(t, "down", hallQuay(), hallThroughOf(2, 7, ends))
	text := "slip 7 d1 3 web:4 ann end web 0"
	risen := hallWith(hallQuay(), hallOne(2, func(r *impl.Recorder) { r.Up = true }))
	hallHappens(t, "risen", risen, hallThroughOf(2, 7, ends), hallAskedAt(8, text), hallWishes(2, text))
	// The Entry is not looked at.
	e := hallThroughOf(1, 7, ends)
	e.Entry, _ = impl.HallRead("time 1")
	hallHappens(t, "with an Entry", hallQuay(), e, hallAskedAt(8, text), hallWishes(1, text))
}

func TestHallThroughAgain(t *testing.T) {
	text := "slip 7 d1 3 web:4 ann end web 0"
	e := hallThroughOf(1, 7, asksEnd("web", 0))
	for what, asked := range map[string]impl.HallAsked{"answered": {Text: text, From: 2, To: 5, Said: refused(12, 1)}, "not answered": {Text: text, From: 2}} {
		hallHappens(t, what, hallWith(hallQuay(), hallWaits(asked)), e, hallWishes(1, text))
		hallHappens(t, what+", the last room taken", hallWith(hallQuay(), hallAt(50), hallWaits(append(hallTimes(11), asked)...)), e, hallWishes(1, text))
	}
	hallHappens(t, "no room", hallWith(hallQuay(), hallAt(50), hallWaits(hallTimes(12)...)), e)
	hallHappens(t, "the last room", hallWith(hallQuay(), hallAt(50), hallWaits(hallTimes(11)...)), e, hallAskedAt(51, text), hallWishes(1, text))
	hallHappens(t, "full Wishes", hallWith(hallQuay(), hallWishes(1, recManyWishes(20)...)), e, hallAskedAt(8, text))
	hallHappens(t, "known already", hallWith(hallKnowing(inOneRow(text, hallWebReady())), hallAt(7)), hallThroughOf(0, 7, asksEnd("web", 0)), hallAskedAt(8, text))
}

// With each code that HallSlipOf can say of books that texts led to, nothing is asked. (No field is Fixed, so 8 is none of them; 10 is not looked for, and 12 and 14 come later.)
func TestHallThroughRefused(t *testing.T) {
	ready := hallWebReady()
	gone := inOneRow(ready, "slip 2 d1 3 web:4 ann end web 0")
	fleet := texts{"fleet"}
	told := map[int]bool{}
	for _, c := range []struct {
		what string
		row  texts
		ask  ask
		code int
	}{
		{"an ask that is not ok", ready, asksEnd("", 0), 2},
		{"a verb that is none", ready, ask{Verb: 7}, 2},
		{"there already", ready, asksMake("web", "dev", fleet, "1", "2", "", "", "", ""), 3},
		{"not there", ready, asksEnd("new", 0), 3},
		{"they may not", ready, by("bob", asksEnd("web", 0)), 4},
		{"seen otherwise", ready, asksEnd("web", 3), 5},
		{"Ending", gone, asksEnd("web", 0), 6},
		{"a value that does not fit", ready, asksMake("new", "dev", fleet, "1001", "2", "", "", "", ""), 7},
		{"a link to nothing", ready, asksMake("new", "dev", fleet, "1", "2", "", "", "", "ghost"), 9},
		{"no such hold", ready, asksLetGo("web", "audit"), 11},
		{"to make without the hold", ready, asksMake("new", "dev", nil, "1", "2", "", "", "", ""), 15},
		{"to let the hold go", ready, asksLetGo("web", "fleet"), 15},
	} {
		w := hallWith(hallKnowing(c.row, nil), hallAt(7))
		e := hallThroughOf(0, 7, c.ask)
		_, said := impl.HallSlipOf(w.House, hallStateBy(w.House, c.row), 7, e.Door, e.Ask)
		if said.Code != c.code {
			t.Errorf("%s: told %+v", c.what, said)
		}
		told[said.Code] = true
		hallHappens(t, c.what, w, e)
	}
	for _, door := range []string{"", "D1", "d 1", letters(17)} {
		e := hallThroughOf(1, 7, asksEnd("web", 0))
		e.Door = door
		hallHappens(t, "a door that is no name", hallQuay(), e)
	}
	if len(told) != 9 {
		t.Errorf("told: %v", told)
	}
	// A purse is looked at only when the slip is committed.
	text := "slip 7 d1 3 new:0 ann make new dev fleet 1,2,,,,"
	hallHappens(t, "no purse", hallWith(hallKnowing(inOneRow(ready, "bound 1 dev copies 9")), hallAt(7)), hallThroughOf(0, 7, asksMake("new", "dev", fleet, "1", "2", "", "", "", "")), hallAskedAt(8, text), hallWishes(0, text))
}

// A form has at most 160 bytes: with a door of two bytes it has 158 here.
func TestHallThroughTooLong(t *testing.T) {
	owner, name := letters(16), "b"+letters(15)
	row := texts{"slip 1 d1 3 * ann make " + owner + " dev fleet 1,2,,,,"}
	a := asksMake(name, "dev", texts{"fleet", "h" + letters(15), "i" + letters(15)}, "1000", "10", "10", "10", "1000000", owner)
	for size := 1; size <= 16; size++ {
		e := hallThroughOf(0, 7, a)
		e.Door = letters(size)
		text := "slip 7 " + e.Door + " 3 " + name + ":0," + owner + ":4 ann make " + name + " dev fleet,h" + letters(15) + ",i" + letters(15) + " 1000,10,10,10,1000000," + owner
		var turns []hallTurn
		if size <= 4 {
			turns = []hallTurn{hallAskedAt(8, text), hallWishes(0, text)}
		}
		if len(text) != 156+size {
			t.Errorf("%q has %d bytes", text, len(text))
		}
		hallHappens(t, fmt.Sprint("a door of ", size), hallWith(hallKnowing(row), hallAt(7)), e, turns...)
	}
}

// hallStewardOf is the event in which a steward looks at a recorder.
func hallStewardOf(at, steward int) hallEvent {
	return hallEvent{Kind: impl.HallSteward, A: at, B: steward}
}

// Rows in which one steward each has something to do, and the others have not; by the numbers of the stewards.
func hallStewardRows() map[int]texts {
	ready := hallWebReady()
	return map[int]texts{
		impl.StewCounter: ready[:2],
		impl.StewWaver:   inOneRow(ready, "slip 2 d1 3 web:4 ann change web 0 2,2,,,,"),
		impl.StewMender:  inOneRow(ready, "sea 4 fails web 2"),
		impl.StewScaler:  {"sea 1 raise b1", "slip 1 d1 3 web:0 ann make web dev fleet 1,3,,,5,", "sea 2 load web 9"},
		impl.StewSweeper: inOneRow(ready, "slip 2 d1 3 web:4 ann end web 0"),
		impl.StewDrainer: inOneRow(ready, "sea 4 drain b1"),
	}
}

func TestHallSteward(t *testing.T) {
	forms := map[int]string{
		impl.StewCounter: "act 2 web 2 2 * * *",
		impl.StewWaver:   "act 6 web 6 1 * * *",
		impl.StewMender:  "act 6 web 3 0 * 2:6 *",
		impl.StewScaler:  "act 3 web 3 0 2:0 * *",
		impl.StewSweeper: "act 6 web 6 0 * 1:5,2:5 *",
		impl.StewDrainer: "act 6 web 3 1 * * *",
	}
	for steward, row := range hallStewardRows() {
		w := hallWith(hallKnowing(nil, row, row), hallAt(7), hallOne(2, recIsDown), hallWaits(impl.HallAsked{Text: forms[steward], From: 3}))
		for _, other := range []int{math.MinInt, -1, 0, 1, 2, 3, 4, 5, 6, 7, 8, 100, math.MaxInt} {
			what := fmt.Sprintf("what %d has to do, %d looks", steward, other)
			if other == steward {
				hallHappens(t, what, w, hallStewardOf(1, other), hallWishes(1, forms[steward]))
			} else {
				hallHappens(t, what, w, hallStewardOf(1, other))
			}
			hallHappens(t, what+" at what knows nothing", w, hallStewardOf(0, other))
			hallHappens(t, what+" at one that is down", w, hallStewardOf(2, other))
		}
	}
}

// Several acts at once, in order, as many as there is room for; none of them is waited for.
func TestHallStewardSeveral(t *testing.T) {
	row := hallMadeIn(5, "1,2,,,,")
	var forms texts
	for i := range 5 {
		forms = append(forms, fmt.Sprintf("act 5 x%d %d 2 * * *", i, i+1))
	}
	w := hallWith(hallKnowing(row), hallAt(7))
	hallHappens(t, "five", w, hallStewardOf(0, impl.StewCounter), hallWishes(0, forms...))
	hallHappens(t, "five, one of them wished for", hallWith(w, hallWishes(0, forms[2])), hallStewardOf(0, impl.StewCounter), hallOne(0, recWishes(forms[2], forms[0], forms[1], forms[3], forms[4])))
	for room := range 7 {
		wished := hallWith(w, hallWishes(0, recManyWishes(20-room)...))
		hallHappens(t, fmt.Sprint("room for ", room), wished, hallStewardOf(0, impl.StewCounter), hallWishes(0, forms[:min(room, 5)]...))
	}
	stale := hallWith(hallKnowing(inOneRow(row, "act 5 x3 4 2 * * *")), hallAt(7))
	hallHappens(t, "one is done", stale, hallStewardOf(0, impl.StewCounter), hallWishes(0, "act 6 x0 1 2 * * *", "act 6 x1 2 2 * * *", "act 6 x2 3 2 * * *", "act 6 x4 5 2 * * *"))
	full := hallWith(w, hallWaits(hallTimes(12)...), hallAt(50))
	hallHappens(t, "as many asked as may be", full, hallStewardOf(0, impl.StewCounter), hallWishes(0, forms...))
	long := hallWith(hallKnowing(hallManyCopies()), hallAt(7))
	hallHappens(t, "nothing to do for what is Ending", long, hallStewardOf(0, impl.StewMender))
}

// hallHearOf is the event in which the answer to the text at b is asked for at a recorder.
func hallHearOf(at, b int) hallEvent {
	return hallEvent{Kind: impl.HallHear, A: at, B: b}
}

func hallHeardAs(b, to int, said impl.GateSaid) hallTurn {
	return func(w *hallWorld) { w.Asked[b].To, w.Asked[b].Said = to, said }
}

func TestHallHear(t *testing.T) {
	row := inOneRow(hallWebReady(), "sea 9 sink b9", "slip 3 d1 3 * ann end web 3", "time 5", "slip 4 d1 3 * ann end web 4", "sea 9 sink b9")
	var list []impl.HallAsked
	answers := []impl.GateSaid{{Version: 4}, {Version: 5}, {Code: 14, Place: 3}, {Code: 5, Version: 4}, {}, {Version: 5}}
	for i, text := range []string{hallWebMade, "sea 3 tick", "sea 9 sink b9", "slip 3 d1 3 * ann end web 3", "time 5", "slip 4 d1 3 * ann end web 4"} {
		list = append(list, impl.HallAsked{Text: text, From: i})
	}
	list = append(list, impl.HallAsked{Text: "time 6", From: 7})
	w := hallWith(hallKnowing(row, row[:6], row, nil), hallAt(7), hallOne(2, recIsDown), hallWaits(list...))
	for b, said := range answers {
		hallHappens(t, "known: "+list[b].Text, w, hallHearOf(0, b), hallHeardAs(b, 8, said))
		hallHappens(t, "down: "+list[b].Text, w, hallHearOf(2, b))
		hallHappens(t, "unknown: "+list[b].Text, w, hallHearOf(3, b))
		// The second knows the first three of them.
		if b < 3 {
			hallHappens(t, "known by the second: "+list[b].Text, w, hallHearOf(1, b), hallHeardAs(b, 8, said))
		} else {
			hallHappens(t, "unknown by the second: "+list[b].Text, w, hallHearOf(1, b))
		}
		answered := hallWith(w, hallHeardAs(b, 7, refused(99, 1)))
		hallHappens(t, "answered: "+list[b].Text, answered, hallHearOf(0, b))
		nothing := hallWith(w, hallHeardAs(b, 7, impl.GateSaid{}))
		hallHappens(t, "answered with nothing: "+list[b].Text, nothing, hallHearOf(0, b))
	}
	for at := range 4 {
		hallHappens(t, "known by nobody", w, hallHearOf(at, 6))
		for _, b := range []int{math.MinInt, -1000, -1, 7, 8, 12, 1000, math.MaxInt} {
			hallHappens(t, fmt.Sprintf("nothing is waited for at %d", b), w, hallHearOf(at, b))
		}
		hallHappens(t, "nothing is waited for at all", hallWith(w, hallWaits()), hallHearOf(at, 0))
	}
	late := hallWith(w, hallOne(0, recKnows(4)))
	hallHappens(t, "in a slot that is not known", late, hallHearOf(0, 1))
	hallHappens(t, "known ahead of it", late, hallHearOf(0, 0), hallHeardAs(0, 8, impl.GateSaid{Version: 4}))
	hallHappens(t, "asked just now", hallWith(w, func(w *hallWorld) { w.Asked[1].From = 7 }), hallHearOf(0, 1), hallHeardAs(1, 8, impl.GateSaid{Version: 5}))
}

// At the greatest int there is no event more to count. A world stays ok then, all else happens, and what is asked at that very end is not heard.
func TestHallStepAtTheLastNow(t *testing.T) {
	last := hallAt(math.MaxInt)
	ahead := hallWith(hallQuay(), hallAt(math.MaxInt-1))
	got := hallHappens(t, "one ahead of it", ahead, hallAsksOf(t, 0, "time 1"), hallAskedAt(math.MaxInt, "time 1"), hallWishes(0, "time 1"))
	checkHallStep(t, "no Kind", got, hallEvent{}, got)
	checkHallStep(t, "a fall", got, hallEvent{Kind: impl.RecEvFall}, hallWith(got, hallOne(0, func(r *impl.Recorder) { r.Up, r.Wishes = false, nil })))
	checkHallStep(t, "asked", got, hallAsksOf(t, 0, "time 2"), hallWith(got, hallAskedAt(math.MaxInt, "time 2"), hallWishes(0, "time 2")))
	known := hallWith(hallKnowing(texts{"time 1", "time 2"}), last, hallWaits(impl.HallAsked{Text: "time 1", From: math.MaxInt - 1}, impl.HallAsked{Text: "time 2", From: math.MaxInt}))
	checkHallStep(t, "heard", known, hallHearOf(0, 0), hallWith(known, hallHeardAs(0, math.MaxInt, impl.GateSaid{})))
	checkHallStep(t, "not heard", known, hallHearOf(0, 1), known)
}
