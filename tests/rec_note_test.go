package tests

import (
	"fmt"
	"slices"
	"testing"

	"loop.example/wharfdesk/impl"
)

// recKept is the two disks of one that is not Up.
type recKept struct{ safe, disk impl.RecDisk }

// recAsleep is a world in which nobody is Up: a tick changes no recorder there, and nothing is taken.
func recAsleep(row ...recKept) impl.RecWorld {
	w := impl.RecWorld{}
	for at, kept := range row {
		w.Recorders = append(w.Recorders, impl.Recorder{Number: at + 1, Of: len(row), Safe: kept.safe, Disk: kept.disk})
	}
	return w
}

// recHasSafe has slots that are Safe, and knows nothing.
func recHasSafe(slots ...impl.RecSlot) recKept {
	return recKept{safe: impl.RecDisk{Promise: 1000000, Slots: slots}}
}

// recKnowsAll knows all that it has on its Disk; nothing is Safe.
func recKnowsAll(slots ...impl.RecSlot) recKept {
	return recKept{disk: impl.RecDisk{Promise: 1000000, Known: len(slots), Slots: slots}}
}

// recJoin is one that has what is Safe of the first, and the Disk of the second.
func recJoin(safe, disk recKept) recKept {
	return recKept{safe.safe, disk.disk}
}

// recNotes says what is noted in a world in which nobody is Up: behind a tick, behind a message, and in a calm round; and that nothing is noted otherwise.
func recNotes(t *testing.T, what string, w impl.RecWorld, want ...impl.RecFix) {
	t.Helper()
	to := len(w.Recorders)
	w.Flight = []impl.RecMessage{{Kind: impl.RecWished, From: 1, To: to, Text: "t"}, {Kind: impl.RecWished, From: to, To: 1, Text: "u"}}
	recHappens(t, what+", by a tick", w, recEvent(impl.RecEvTick, 0), recFixes(want...))
	for a := range 2 {
		recHappens(t, fmt.Sprint(what, ", by the message at ", a), w, recEvent(impl.RecEvBring, a), recFixes(want...), recFlies(w.Flight[1-a]))
	}
	for rounds := 1; rounds <= 3; rounds++ {
		recCalms(t, fmt.Sprint(what, ", by rounds: ", rounds), w, rounds, recWorldWith(w, recFlies(), recFixes(want...)))
	}
	recHappens(t, what+", and one is doubled", w, recEvent(impl.RecEvDouble, 0), recFlies(append(slices.Clone(w.Flight), w.Flight[0])...))
	recHappens(t, what+", and one is lost", w, recEvent(impl.RecEvLose, 0), recFlies(w.Flight[1]))
	recHappens(t, what+", and one rises", w, recEvent(impl.RecEvRise, 0), recOne(0, func(r *impl.Recorder) { r.Up = true }))
	recHappens(t, what+", and one falls", w, recEvent(impl.RecEvFall, 0), recOne(0, func(r *impl.Recorder) { r.Disk = r.Safe }))
	recHappens(t, what+", and one is wished for", w, impl.RecEvent{Kind: impl.RecEvWish, Text: "t"})
	recHappens(t, what+", and nothing happens", w, recEvent(8, 0))
	recCalms(t, what+", and no round", w, 0, w)
}

func recFix(index int, text string) impl.RecFix {
	return impl.RecFix{Index: index, Text: text}
}

func TestRecNoteWhatMostHave(t *testing.T) {
	a, b := recSlot(3, "a"), recSlot(4, "b")
	none := recSlot(0, "")
	for what, c := range map[string]struct {
		row  []recKept
		want []impl.RecFix
	}{
		"one alone":               {[]recKept{recHasSafe(a, b)}, []impl.RecFix{recFix(1, "a"), recFix(2, "b")}},
		"one alone, with a gap":   {[]recKept{recHasSafe(a, none, b)}, []impl.RecFix{recFix(1, "a"), recFix(3, "b")}},
		"one of two":              {[]recKept{recHasSafe(a), recHasSafe()}, nil},
		"two of two":              {[]recKept{recHasSafe(a), recHasSafe(a)}, []impl.RecFix{recFix(1, "a")}},
		"two of three":            {[]recKept{recHasSafe(a), recHasSafe(), recHasSafe(a)}, []impl.RecFix{recFix(1, "a")}},
		"the last two of three":   {[]recKept{recHasSafe(b), recHasSafe(a), recHasSafe(a)}, []impl.RecFix{recFix(1, "a")}},
		"two of four":             {[]recKept{recHasSafe(a), recHasSafe(a), recHasSafe(b), recHasSafe(b)}, nil},
		"three of four":           {[]recKept{recHasSafe(a), recHasSafe(b), recHasSafe(a), recHasSafe(a)}, []impl.RecFix{recFix(1, "a")}},
		"two of five":             {[]recKept{recHasSafe(a), recHasSafe(a), recHasSafe(b), recHasSafe(b), recHasSafe()}, nil},
		"three of five":           {[]recKept{recHasSafe(b), recHasSafe(a), recHasSafe(), recHasSafe(a), recHasSafe(a)}, []impl.RecFix{recFix(1, "a")}},
		"a gap":                   {[]recKept{recHasSafe(a, a, a), recHasSafe(a, b, a), recHasSafe(b, none, a)}, []impl.RecFix{recFix(1, "a"), recFix(3, "a")}},
		"not the first":           {[]recKept{recHasSafe(a, b), recHasSafe(b, b)}, []impl.RecFix{recFix(2, "b")}},
		"an empty text":           {[]recKept{recHasSafe(recSlot(2, ""), b), recHasSafe(recSlot(2, ""))}, []impl.RecFix{recFix(1, "")}},
		"nothing taken by most":   {[]recKept{recHasSafe(none, b), recHasSafe(none, b)}, []impl.RecFix{recFix(2, "b")}},
		"two ballots of one text": {[]recKept{recHasSafe(a), recHasSafe(recSlot(4, "a"))}, nil},
		"two texts of one ballot": {[]recKept{recHasSafe(a), recHasSafe(recSlot(3, "b"))}, nil},
		"on the Disks alone":      {[]recKept{{disk: impl.RecDisk{Promise: 9, Slots: recSlots(a)}}, {disk: impl.RecDisk{Promise: 9, Slots: recSlots(a)}}}, nil},
		"nothing at all":          {[]recKept{{}, {}, {}}, nil},
	} {
		recNotes(t, what, recAsleep(c.row...), c.want...)
	}
}

// What most have Safe stands ahead of what anybody knows; of those who know, the first counts.
func TestRecNoteWhatIsKnown(t *testing.T) {
	a, b, c := recSlot(3, "a"), recSlot(4, "b"), recSlot(5, "c")
	for what, x := range map[string]struct {
		row  []recKept
		want []impl.RecFix
	}{
		"by one alone":             {[]recKept{recKnowsAll(a, b)}, []impl.RecFix{recFix(1, "a"), recFix(2, "b")}},
		"by the last":              {[]recKept{{}, {}, recKnowsAll(a)}, []impl.RecFix{recFix(1, "a")}},
		"by the first":             {[]recKept{recKnowsAll(a), recKnowsAll(b), recKnowsAll(c)}, []impl.RecFix{recFix(1, "a")}},
		"by the first who does":    {[]recKept{{}, recKnowsAll(b), recKnowsAll(c)}, []impl.RecFix{recFix(1, "b")}},
		"by others further on":     {[]recKept{recKnowsAll(a), recKnowsAll(b, b), recKnowsAll(c, c, c)}, []impl.RecFix{recFix(1, "a"), recFix(2, "b"), recFix(3, "c")}},
		"by the first of others":   {[]recKept{recKnowsAll(a), recKnowsAll(c, c, c), recKnowsAll(b, b)}, []impl.RecFix{recFix(1, "a"), recFix(2, "c"), recFix(3, "c")}},
		"an empty text":            {[]recKept{{}, recKnowsAll(recSlot(1, "")), recKnowsAll(b)}, []impl.RecFix{recFix(1, "")}},
		"what is known of a Disk":  {[]recKept{{disk: impl.RecDisk{Promise: 9, Known: 1, Slots: recSlots(a, b)}}}, []impl.RecFix{recFix(1, "a")}},
		"most have another":        {[]recKept{recKnowsAll(c), recHasSafe(a), recHasSafe(a)}, []impl.RecFix{recFix(1, "a")}},
		"most have another, later": {[]recKept{recHasSafe(a), recHasSafe(a), recKnowsAll(c)}, []impl.RecFix{recFix(1, "a")}},
		"half have another":        {[]recKept{recHasSafe(a), recKnowsAll(c)}, []impl.RecFix{recFix(1, "c")}},
		"most, who know another":   {[]recKept{recJoin(recHasSafe(a), recKnowsAll(b)), recJoin(recHasSafe(a), recKnowsAll(b)), recKnowsAll(b)}, []impl.RecFix{recFix(1, "a")}},
		"most have an empty text":  {[]recKept{recJoin(recHasSafe(recSlot(1, "")), recKnowsAll(b)), recHasSafe(recSlot(1, "")), recKnowsAll(b)}, []impl.RecFix{recFix(1, "")}},
		"most have nothing taken":  {[]recKept{recHasSafe(recSlot(0, "")), recHasSafe(recSlot(0, "")), recKnowsAll(b)}, []impl.RecFix{recFix(1, "b")}},
		"by turns":                 {[]recKept{recJoin(recHasSafe(a, a, a), recKnowsAll(b, b, b)), recHasSafe(a, c, a), recHasSafe(c, c, c)}, []impl.RecFix{recFix(1, "a"), recFix(2, "c"), recFix(3, "a")}},
		"Known of a Safe disk":     {[]recKept{{safe: impl.RecDisk{Promise: 9, Known: 1, Slots: recSlots(a)}}, {}}, nil},
		"the Disk, not Safe":       {[]recKept{{safe: impl.RecDisk{Promise: 9, Known: 1, Slots: recSlots(a)}, disk: impl.RecDisk{Promise: 9, Known: 1, Slots: recSlots(b)}}, {}}, []impl.RecFix{recFix(1, "b")}},
	} {
		recNotes(t, what, recAsleep(x.row...), x.want...)
	}
}

// What Fixed has stays as it is, whatever the disks say; what is noted is put between.
func TestRecNoteWhatIsThere(t *testing.T) {
	slots := recNumbered(6, "s", func(place int) int { return 1 + place })
	row := [][]recKept{{recHasSafe(slots...)}, {recKnowsAll(slots...)}, {recHasSafe(slots...), recHasSafe(slots...)}, {{}, recKnowsAll(slots...), {}}}
	text := func(index int) impl.RecFix { return recFix(index, slots[index-1].Text) }
	for _, c := range []struct{ fixed, want []impl.RecFix }{
		{nil, []impl.RecFix{text(1), text(2), text(3), text(4), text(5), text(6)}},
		{[]impl.RecFix{recFix(1, "other")}, []impl.RecFix{recFix(1, "other"), text(2), text(3), text(4), text(5), text(6)}},
		{[]impl.RecFix{recFix(6, "other")}, []impl.RecFix{text(1), text(2), text(3), text(4), text(5), recFix(6, "other")}},
		{[]impl.RecFix{recFix(3, "")}, []impl.RecFix{text(1), text(2), recFix(3, ""), text(4), text(5), text(6)}},
		{[]impl.RecFix{recFix(2, "x"), text(4), recFix(5, "y")}, []impl.RecFix{text(1), recFix(2, "x"), text(3), text(4), recFix(5, "y"), text(6)}},
		{[]impl.RecFix{recFix(7, "far"), recFix(119, "x"), recFix(120, "last")}, []impl.RecFix{text(1), text(2), text(3), text(4), text(5), text(6), recFix(7, "far"), recFix(119, "x"), recFix(120, "last")}},
		{[]impl.RecFix{recFix(3, "x"), recFix(50, "far")}, []impl.RecFix{text(1), text(2), recFix(3, "x"), text(4), text(5), text(6), recFix(50, "far")}},
		{[]impl.RecFix{text(1), text(2), text(3), text(4), text(5), text(6)}, []impl.RecFix{text(1), text(2), text(3), text(4), text(5), text(6)}},
		{[]impl.RecFix{recFix(1, "1"), recFix(2, "2"), recFix(3, "3"), recFix(4, "4"), recFix(5, "5"), recFix(6, "6")}, []impl.RecFix{recFix(1, "1"), recFix(2, "2"), recFix(3, "3"), recFix(4, "4"), recFix(5, "5"), recFix(6, "6")}},
	} {
		for i, kept := range row {
			w := recAsleep(kept...)
			w.Fixed = c.fixed
			recNotes(t, fmt.Sprintf("%d, %v", i, c.fixed), w, c.want...)
		}
	}
	far := recAsleep(recKept{}, recKept{})
	far.Fixed = []impl.RecFix{recFix(5, "of nobody"), recFix(120, "")}
	recNotes(t, "of nobody", far, far.Fixed...)
}

// All places that there are, the last one too.
func TestRecNoteAllPlaces(t *testing.T) {
	for _, n := range []int{1, 119, 120} {
		slots := recNumbered(n, "s", func(place int) int { return 1 + place%7 })
		var all []impl.RecFix
		for i, s := range slots {
			all = append(all, recFix(i+1, s.Text))
		}
		recNotes(t, fmt.Sprint(n, " that most have"), recAsleep(recHasSafe(slots...), recHasSafe(slots...), recKept{}), all...)
		recNotes(t, fmt.Sprint(n, " that one knows"), recAsleep(recKept{}, recKnowsAll(slots...), recKept{}), all...)
		// The odd ones are there already.
		w := recAsleep(recHasSafe(slots...))
		for i := 0; i < n; i += 2 {
			all[i].Text = "there"
			w.Fixed = append(w.Fixed, all[i])
		}
		recNotes(t, fmt.Sprint("every other one of ", n), w, all...)
	}
	last := append(recSome(119, recSlot(0, "")), recSlot(1000000, letters(160)))
	recNotes(t, "the last alone", recAsleep(recHasSafe(last...), recHasSafe(last...)), recFix(120, letters(160)))
}

// What was noted once stays, through any number of ticks, though another text has most of them later.
func TestRecNoteStays(t *testing.T) {
	w := recAsleep(recHasSafe(recSlot(3, "a")), recHasSafe(recSlot(3, "a")), recHasSafe())
	w = impl.RecDo(w, recEvent(impl.RecEvTick, 0))
	for at := range w.Recorders {
		w.Recorders[at].Safe.Slots = recSlots(recSlot(4, "b"), recSlot(4, "c"))
	}
	recNotes(t, "later", w, recFix(1, "a"), recFix(2, "c"))
}
