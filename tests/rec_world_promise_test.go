package tests

import (
	"slices"
	"testing"

	"loop.example/wharfdesk/impl"
)

// recWorldIsOk is the document's sentence on when a world is ok.
func recWorldIsOk(w impl.RecWorld) bool {
	n := len(w.Recorders)
	if !recIn(1, 5, n) || !recIn(0, 600, len(w.Flight)) {
		return false
	}
	var numbers, indices []int
	for _, r := range w.Recorders {
		numbers = append(numbers, r.Number)
	}
	for _, fix := range w.Fixed {
		indices = append(indices, fix.Index)
	}
	return slices.Equal(numbers, recUpTo(1, n)) && recRises(indices) &&
		all(w.Recorders, func(r impl.Recorder) bool { return r.Of == n && recIsValid(r) }) &&
		all(w.Flight, func(m impl.RecMessage) bool { return recMessageIsOk(m, n) }) &&
		all(w.Fixed, func(fix impl.RecFix) bool { return recIn(1, 120, fix.Index) && len(fix.Text) <= 160 })
}

func recMajorAsRead(w impl.RecWorld, index int) (string, bool) {
	if !recWorldIsOk(w) {
		return "", false
	}
	return recMostHave(w.Recorders, index)
}

// recMostHave asks of each recorder how many have what it has.
func recMostHave(row []impl.Recorder, index int) (string, bool) {
	for _, r := range row {
		if index < 1 || index > len(r.Safe.Slots) || r.Safe.Slots[index-1].Ballot == 0 {
			continue
		}
		many := 0
		for _, x := range row {
			if len(x.Safe.Slots) >= index && x.Safe.Slots[index-1] == r.Safe.Slots[index-1] {
				many++
			}
		}
		if many > len(row)/2 {
			return r.Safe.Slots[index-1].Text, true
		}
	}
	return "", false
}

func recAgreeAsRead(w impl.RecWorld) bool {
	if !recWorldIsOk(w) {
		return false
	}
	for _, r := range w.Recorders {
		for place, text := range recTexts(r.Disk.Slots[:r.Disk.Known]) {
			if !slices.Contains(w.Fixed, recFix(place+1, text)) {
				return false
			}
		}
	}
	for index := 1; index <= 120; index++ {
		if text, told := recMostHave(w.Recorders, index); told && !slices.Contains(w.Fixed, recFix(index, text)) {
			return false
		}
	}
	return true
}

// recNotedAsRead is Fixed behind a note: place by place, what it had, or else what is told.
func recNotedAsRead(w impl.RecWorld) []impl.RecFix {
	var row [121][]impl.RecFix
	for _, fix := range w.Fixed {
		row[fix.Index] = append(row[fix.Index], fix)
	}
	var list []impl.RecFix
	for index := 1; index <= 120; index++ {
		if text, told := recMostHave(w.Recorders, index); told {
			row[index] = append(row[index], recFix(index, text))
		}
		for _, r := range w.Recorders {
			if r.Disk.Known >= index {
				row[index] = append(row[index], recFix(index, r.Disk.Slots[index-1].Text))
			}
		}
		if len(row[index]) > 0 {
			list = append(list, row[index][0])
		}
	}
	return list
}

// recDoneAsRead is chapter 26, read a second time.
func recDoneAsRead(w impl.RecWorld, e impl.RecEvent) impl.RecWorld {
	if !recWorldIsOk(w) {
		return impl.RecWorld{}
	}
	return recHappenedAsRead(w, e)
}

// recHappenedAsRead takes the world to be ok.
func recHappenedAsRead(w impl.RecWorld, e impl.RecEvent) impl.RecWorld {
	w = impl.RecWorld{Recorders: slices.Clone(w.Recorders), Flight: slices.Clone(w.Flight), Fixed: slices.Clone(w.Fixed)}
	isMessage, isRecorder := e.A >= 0 && e.A < len(w.Flight), e.A >= 0 && e.A < len(w.Recorders)
	switch {
	case e.Kind == 1:
		for at, r := range w.Recorders {
			ticked := recTickedAsRead(r)
			w.Recorders[at], w.Flight = ticked.Next, append(w.Flight, ticked.Sent...)
		}
		w.Flight = w.Flight[:min(600, len(w.Flight))]
		w.Fixed = recNotedAsRead(w)
	case e.Kind == 2 && isMessage:
		m := w.Flight[e.A]
		w.Flight = append(w.Flight[:e.A], w.Flight[e.A+1:]...)
		w.Recorders[m.To-1] = recTakenAsRead(w.Recorders[m.To-1], m)
		w.Fixed = recNotedAsRead(w)
	case e.Kind == 3 && isMessage && len(w.Flight) < 600:
		w.Flight = append(w.Flight, w.Flight[e.A])
	case e.Kind == 4 && isMessage:
		w.Flight = append(w.Flight[:e.A], w.Flight[e.A+1:]...)
	case e.Kind == 5 && isRecorder:
		w.Recorders[e.A] = recFallenAsRead(w.Recorders[e.A])
	case e.Kind == 6 && isRecorder:
		w.Recorders[e.A] = recRisenAsRead(w.Recorders[e.A])
	case e.Kind == 7 && isRecorder:
		w.Recorders[e.A] = recWishedAsRead(w.Recorders[e.A], e.Text)
	}
	return w
}

func recCalmAsRead(w impl.RecWorld, rounds int) impl.RecWorld {
	if !recWorldIsOk(w) {
		return impl.RecWorld{}
	}
	for range min(max(rounds, 0), 1000) {
		w = recHappenedAsRead(w, recEvent(1, 0))
		for range len(w.Flight) {
			w = recHappenedAsRead(w, recEvent(2, 0))
		}
	}
	return w
}

// recWorld is ok. Its disks have much in common, most of the time.
func (d *dice) recWorld() impl.RecWorld {
	w := impl.RecWorld{}
	of := 1 + d.roll(5)
	for number := 1; number <= of; number++ {
		w.Recorders = append(w.Recorders, d.recMadeBusy(d.recEnlivened(d.recorderOf(number, of))))
	}
	if d.roll(3) > 0 {
		d.recShare(w.Recorders)
	}
	for range d.roll(8) {
		if m := d.recMeets(pick(d, w.Recorders...)); recMessageIsOk(m, of) {
			w.Flight = append(w.Flight, m)
		}
	}
	if d.roll(10) == 0 {
		for n := 590 + d.roll(11); len(w.Flight) < n; {
			w.Flight = append(w.Flight, d.recOkMessage(1+d.roll(of), of))
		}
	}
	for _, index := range d.recSomeOf(pick(d, 0, 0, 3, 6, 120)) {
		w.Fixed = append(w.Fixed, recFix(index, d.recText()))
	}
	if d.roll(3) == 0 {
		w.Fixed = recNotedAsRead(w)
	}
	return w
}

// recShare gives recorders the same slots here and there, as far as they stay valid by them.
func (d *dice) recShare(row []impl.Recorder) {
	common := d.recOkSlots(1+d.roll(6), 4)
	for at := range row {
		r := spread(row[at])
		for _, disk := range []*impl.RecDisk{&r.Safe, &r.Disk} {
			for place, s := range common {
				if place < len(disk.Slots) && d.roll(4) > 0 {
					disk.Slots[place] = s
				} else if place == len(disk.Slots) {
					disk.Slots = append(disk.Slots, s)
				}
			}
		}
		if recIsValid(r) {
			row[at] = r
		}
	}
}

func (d *dice) recWorldEvent(w impl.RecWorld) impl.RecEvent {
	e := impl.RecEvent{Kind: 1 + d.roll(7), Text: pick(d, d.recText(), "c", "x", letters(161))}
	switch n := len(w.Flight); {
	case e.Kind >= 5 || n == 0:
		e.A = d.roll(6)
	case d.roll(4) > 0:
		e.A = d.roll(n)
	default:
		e.A = pick(d, 0, n-1, n, n+1)
	}
	if d.roll(12) == 0 {
		*pick(d, &e.Kind, &e.A) = d.recAnyNumber()
	}
	return e
}

// recSpoilWorld changes one thing of a world, which may still be ok then.
func (d *dice) recSpoilWorld(w *impl.RecWorld) {
	switch d.roll(8) {
	case 0, 1:
		d.recSpoil(&w.Recorders[d.roll(len(w.Recorders))])
	case 2:
		swapTwo(d, w.Recorders)
	case 3:
		w.Recorders = w.Recorders[:d.roll(len(w.Recorders))]
	case 4:
		if len(w.Flight) > 0 {
			d.recSpoilMessage(&w.Flight[d.roll(len(w.Flight))])
		}
	case 5:
		w.Flight = slices.Repeat([]impl.RecMessage{d.recOkMessage(1, 1)}, pick(d, 599, 600, 601))
	case 6:
		w.Fixed = append(w.Fixed, recFix(d.recAnyNumber(), pick(d, d.recText(), letters(161))))
	default:
		swapTwo(d, w.Fixed)
	}
}

// What an event leads to in a made-up world, spoilt now and then, by the second reading; and all else that is told of it.
func TestRecDoMadeUp(t *testing.T) {
	t.Parallel()
	d := dice(2601)
	changed, kept := map[int]int{}, map[int]int{}
	var spoilt, agreed, apart, majors, noted int
	for i := range 8000 {
		w := d.recWorld()
		if d.roll(8) == 0 {
			d.recSpoilWorld(&w)
		}
		isOk := recWorldIsOk(w)
		if impl.RecWorldOk(w) != isOk {
			t.Fatalf("world %d: %v: %+v", i, !isOk, w)
		}
		e := d.recWorldEvent(w)
		got := impl.RecDo(w, e)
		if want := recDoneAsRead(w, e); !same(got, want) {
			t.Fatalf("world %d, %+v in %+v:\n%+v, not\n%+v", i, e, w, got, want)
		}
		agrees := recAgreeAsRead(got)
		if impl.RecAgree(got) != agrees || impl.RecAgree(w) != recAgreeAsRead(w) {
			t.Fatalf("world %d, agreement is %v: %+v", i, !agrees, got)
		}
		for _, index := range []int{1, 2, 1 + d.roll(6), d.recAnyNumber()} {
			text, told := impl.RecMajor(got, index)
			if wanted, want := recMajorAsRead(got, index); text != wanted || told != want {
				t.Fatalf("world %d, place %d: %q and %v, not %q and %v: %+v", i, index, text, told, wanted, want, got)
			}
			if told {
				majors++
			}
		}
		switch {
		case !isOk:
			spoilt++
			continue
		case !impl.RecWorldOk(got):
			t.Fatalf("world %d: %+v became %+v by %+v", i, w, got, e)
		case agrees:
			agreed++
		default:
			apart++
		}
		if len(got.Fixed) > len(w.Fixed) {
			noted++
		}
		if same(got, w) {
			kept[e.Kind]++
		} else {
			changed[e.Kind]++
		}
	}
	for kind := impl.RecEvTick; kind <= impl.RecEvWish; kind++ {
		if changed[kind] < 100 || kind > impl.RecEvTick && kept[kind] < 80 {
			t.Errorf("Kind %d changed something %d times, and nothing %d times", kind, changed[kind], kept[kind])
		}
	}
	if spoilt < 300 || agreed < 1000 || apart < 1000 || majors < 1000 || noted < 300 {
		t.Errorf("too few made-up cases: %d not ok, %d agreed, %d not, %d with what most have, %d noted", spoilt, agreed, apart, majors, noted)
	}
}

// What calm rounds lead to, by the second reading.
func TestRecCalmMadeUp(t *testing.T) {
	t.Parallel()
	d := dice(2602)
	spoilt, noted, full := 0, 0, 0
	for i := range 600 {
		w := d.recWorld()
		if d.roll(10) == 0 {
			d.recSpoilWorld(&w)
		}
		rounds := d.roll(6) - 1
		got := impl.RecCalm(w, rounds)
		if want := recCalmAsRead(w, rounds); !same(got, want) {
			t.Fatalf("world %d, %d rounds of %+v:\n%+v, not\n%+v", i, rounds, w, got, want)
		}
		if impl.RecWorldOk(got) != recWorldIsOk(w) {
			t.Fatalf("world %d: %+v became %+v", i, w, got)
		}
		switch {
		case !recWorldIsOk(w):
			spoilt++
		case len(got.Fixed) > len(w.Fixed):
			noted++
		}
		if rounds > 0 && len(w.Flight) >= 590 {
			full++
		}
	}
	if spoilt < 20 || noted < 100 || full < 25 {
		t.Errorf("too few made-up cases: %d not ok, %d in which something was noted, %d with a flight that is full, or nearly so", spoilt, noted, full)
	}
}

// Arguments stay as they are, and answers are new memory, whatever happens; asked twice, it is the same.
func TestRecWorldMemory(t *testing.T) {
	t.Parallel()
	d := dice(2603)
	for range 400 {
		w := spread(d.recWorld())
		e, rounds := d.recWorldEvent(w), d.roll(4)
		before := whole(w)
		done, calm := impl.RecDo(w, e), impl.RecCalm(w, rounds)
		newMemory(t, "RecDo", done, w)
		newMemory(t, "RecCalm", calm, w)
		impl.RecMajor(w, 1)
		impl.RecAgree(w)
		if !same(whole(w), before) {
			t.Fatalf("the world was changed by %+v or %d rounds: %+v", e, rounds, w)
		}
		if !same(impl.RecDo(w, e), done) || !same(impl.RecCalm(w, rounds), calm) {
			t.Fatalf("twice, and another answer: %+v, %d rounds, %+v", e, rounds, w)
		}
	}
}

func (d *dice) recQuestions(many int) []question[impl.RecWorld] {
	var list []question[impl.RecWorld]
	for i := range many {
		w := d.recWorld()
		e, rounds := d.recWorldEvent(w), 1+d.roll(5)
		ask := func() impl.RecWorld { return impl.RecCalm(w, rounds) }
		switch i % 3 {
		case 0:
			ask = func() impl.RecWorld { return impl.RecDo(w, e) }
		case 1:
			ask = func() impl.RecWorld { return impl.RecDo(w, recEvent(impl.RecEvTick, 0)) }
		}
		list = append(list, questionOf(ask))
	}
	return list
}

// An answer is the same each time, whatever order the recorders' ticks come up in, and whoever else asks at that time.
func TestRecWorldSideBySide(t *testing.T) {
	d := dice(2604)
	questions := d.recQuestions(90)
	crowd := impl.RecNewWorld(5)
	for at := range crowd.Recorders {
		recFullTo(100 + 9*at)(&crowd.Recorders[at])
	}
	ticks := func() impl.RecWorld { return impl.RecDo(crowd, recEvent(impl.RecEvTick, 0)) }
	askSideBySide(t, append(questions, question[impl.RecWorld]{ticks, recDoneAsRead(crowd, recEvent(1, 0))}))
}

func TestRecWorldLeavesNobody(t *testing.T) {
	d := dice(2605)
	none := func() impl.RecWorld { return impl.RecDo(impl.RecWorld{}, recEvent(impl.RecEvTick, 0)) }
	noRounds := func() impl.RecWorld { return impl.RecCalm(impl.RecWorld{}, 3) }
	leavesNobody(t, append(d.recQuestions(60), questionOf(none), questionOf(noRounds)))
}

// Promise 33: over made-up worlds, and over ones that events have led to.
func TestRecCalmInTwo(t *testing.T) {
	t.Parallel()
	d := dice(2606)
	most, moved := 0, 0
	for i := range 400 {
		w := d.recWorld()
		if i%2 == 0 {
			w = d.recLed(t, d.roll(300), d.recWeather(), 50).world
		}
		a, b := d.roll(14), d.roll(14)
		if i%80 == 0 {
			a = d.roll(1001)
			b = 1000 - a
			most++
		}
		half, want := impl.RecCalm(w, a), impl.RecCalm(w, a+b)
		if got := impl.RecCalm(half, b); !same(got, want) {
			t.Fatalf("world %d: %d and %d rounds: %+v, not %+v", i, a, b, got, want)
		}
		if !same(impl.RecCalm(half, 0), half) || !same(impl.RecCalm(w, 0), w) {
			t.Fatalf("world %d: no rounds change it", i)
		}
		if !same(half, w) && !same(want, half) {
			moved++
		}
	}
	if most < 5 || moved < 200 {
		t.Errorf("too few made-up cases: %d with RecMaxCalm rounds, %d in which both halves change something", most, moved)
	}
}
