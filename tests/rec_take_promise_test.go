package tests

import (
	"fmt"
	"slices"
	"testing"

	"loop.example/wharfdesk/impl"
)

// recReading is chapter 23, read a second time: sets are maps here, and slots stand by their places.
type recReading struct {
	r impl.Recorder
	m impl.RecMessage
}

func recTakenAsRead(r impl.Recorder, m impl.RecMessage) impl.Recorder {
	switch {
	case !recIsValid(r):
		return impl.Recorder{}
	case r.Up && m.To == r.Number && recMessageIsOk(m, r.Of):
		read := recReading{spread(r), m}
		read.take()
		return read.r
	}
	return r
}

func recWishedAsRead(r impl.Recorder, text string) impl.Recorder {
	switch {
	case !recIsValid(r):
		return impl.Recorder{}
	case r.Up:
		read := recReading{r: spread(r)}
		read.wish(text)
		return read.r
	}
	return r
}

func (x *recReading) take() {
	r, m := &x.r, x.m
	switch known := r.Disk.Known; m.Kind {
	case 1:
		if m.Ballot > r.Disk.Promise {
			x.follow()
			x.hold(impl.RecMessage{Kind: 2, Ballot: m.Ballot, Slots: slices.Clone(r.Disk.Slots)})
		} else {
			x.refuse()
		}
	case 2:
		if r.Trying && r.Ballot == m.Ballot {
			x.promise()
		}
	case 3:
		if m.Ballot < r.Disk.Promise {
			x.refuse()
		} else if m.Index > 0 && m.Ballot > 0 && m.From != r.Number {
			x.follow()
			if m.Index > known {
				x.put(m.Index, impl.RecSlot{Ballot: m.Ballot, Text: m.Text})
			}
			x.hold(impl.RecMessage{Kind: 4, Ballot: m.Ballot, Index: m.Index})
		}
	case 4:
		if r.Lead && r.Ballot == m.Ballot && m.Index > 0 {
			x.took()
		}
	case 5:
		if m.Ballot < r.Disk.Promise {
			x.refuse()
		} else if m.Ballot > 0 && m.From != r.Number {
			x.beat()
		}
	case 6:
		if m.Index == known+1 && m.Ballot > 0 && m.Ballot <= r.Disk.Promise {
			x.put(m.Index, impl.RecSlot{Ballot: m.Ballot, Text: m.Text})
			r.Disk.Known = m.Index
		}
	case 7:
		for _, more := range []int{0, 1, 2, 3, 4} {
			if index := m.Index + more; r.Lead && m.Index > 0 && index <= known {
				x.hold(impl.RecMessage{Kind: 6, Ballot: r.Ballot, Index: index, Text: r.Disk.Slots[index-1].Text})
			}
		}
	case 8:
		x.wish(m.Text)
	case 9:
		if (r.Lead || r.Trying) && m.Ballot > r.Ballot {
			recIsQuiet(r)
			r.Disk.Promise = max(r.Disk.Promise, m.Ballot)
		}
	}
}

func (x *recReading) hold(m impl.RecMessage) {
	m.From, m.To = x.r.Number, x.m.From
	if len(x.r.Held) < 400 {
		x.r.Held = append(x.r.Held, m)
	}
}

func (x *recReading) refuse() {
	x.hold(impl.RecMessage{Kind: 9, Ballot: x.r.Disk.Promise})
}

func (x *recReading) follow() {
	x.r.Disk.Promise = max(x.r.Disk.Promise, x.m.Ballot)
	if x.r.Ballot != x.m.Ballot {
		recIsQuiet(&x.r)
	}
	x.r.Heard = 0
}

func (x *recReading) put(index int, s impl.RecSlot) {
	slots := make([]impl.RecSlot, max(index, len(x.r.Disk.Slots)))
	copy(slots, x.r.Disk.Slots)
	slots[index-1] = s
	x.r.Disk.Slots = slots
}

// recJoined is a list with one more number, as a set.
func recJoined(list []int, number int) []int {
	return slices.Compact(slices.Sorted(slices.Values(append(slices.Clone(list), number))))
}

func (x *recReading) promise() {
	yes, best := recJoined(x.r.Yes, x.m.From), recMergedBy(x.r.Best, x.m.Slots)
	x.r.Yes, x.r.Best = yes, best
	if len(yes) <= x.r.Of/2 {
		return
	}
	x.r.Lead, x.r.Trying, x.r.Yes, x.r.Best, x.r.Acks = true, false, nil, nil, nil
	for place, s := range best {
		if place+1 > x.r.Disk.Known {
			x.put(place+1, impl.RecSlot{Ballot: x.r.Ballot, Text: s.Text})
		}
	}
}

func (x *recReading) took() {
	from := map[int][]int{}
	for _, ack := range x.r.Acks {
		from[ack.Index] = ack.From
	}
	from[x.m.Index] = recJoined(from[x.m.Index], x.m.From)
	x.r.Acks = nil
	for index := 1; index <= 120; index++ {
		list, there := from[index]
		if !there {
			continue
		}
		x.r.Acks = append(x.r.Acks, impl.RecAck{Index: index, From: list})
		d := &x.r.Disk
		if index == d.Known+1 && len(list) > x.r.Of/2 && len(d.Slots) >= index && d.Slots[index-1].Ballot == x.r.Ballot {
			d.Known = index
		}
	}
}

func (x *recReading) beat() {
	x.follow()
	d := &x.r.Disk
	for place := d.Known; place < min(x.m.Known, len(d.Slots)) && d.Slots[place].Ballot == x.m.Ballot; place++ {
		d.Known = place + 1
	}
	if d.Known < x.m.Known {
		x.hold(impl.RecMessage{Kind: 7, Ballot: x.m.Ballot, Index: d.Known + 1})
	}
	for _, text := range x.r.Wishes {
		x.hold(impl.RecMessage{Kind: 8, Text: text})
	}
}

func (x *recReading) wish(text string) {
	taken := map[string]bool{"": true}
	for _, s := range x.r.Disk.Slots[:x.r.Disk.Known] {
		taken[s.Text] = true
	}
	for _, wish := range x.r.Wishes {
		taken[wish] = true
	}
	if !taken[text] && len(text) <= 160 && len(x.r.Wishes) < 20 {
		x.r.Wishes = append(x.r.Wishes, text)
	}
}

// recMeets is a message for a recorder that has to do with it, most of the time.
func (d *dice) recMeets(r impl.Recorder) impl.RecMessage {
	of := max(1, r.Of)
	m := d.recOkMessage(1+d.roll(of), of)
	if d.roll(8) > 0 {
		m.To = r.Number
	}
	switch d.roll(6) {
	case 0, 1:
		m.Ballot = r.Ballot
	case 2:
		m.Ballot = r.Disk.Promise
	case 3:
		m.Ballot = min(1000000, r.Disk.Promise+d.roll(3))
	}
	switch d.roll(4) {
	case 0:
		m.Index = min(120, r.Disk.Known+d.roll(3))
	case 1:
		m.Index = 1 + d.roll(1+min(120, max(0, r.Disk.Known)))
	}
	// Few messages are for one that leads, or tries, alone.
	if r.Lead && d.roll(3) == 0 {
		m.Kind = pick(d, impl.RecNeed, impl.RecAccepted)
	}
	if r.Trying && d.roll(4) == 0 {
		m.Kind = impl.RecPromised
	}
	if d.roll(8) == 0 {
		d.recSpoilMessage(&m)
	}
	return m
}

// recLively is valid, and such that what it may do is done often: its slots are of few ballots.
func (d *dice) recLively() impl.Recorder {
	return d.recEnlivened(d.recorder())
}

func (d *dice) recEnlivened(r impl.Recorder) impl.Recorder {
	if r.Up && d.roll(2) == 0 && r.Disk.Promise > 0 {
		ballot := max(1, r.Ballot)
		for place := range r.Disk.Slots {
			if d.roll(4) > 0 {
				r.Disk.Slots[place] = recSlot(ballot, r.Disk.Slots[place].Text)
			}
		}
		for r.Disk.Known < len(r.Disk.Slots) && r.Disk.Slots[r.Disk.Known].Ballot > 0 && d.roll(3) == 0 {
			r.Disk.Known++
		}
	}
	if r.Up && d.roll(8) == 0 {
		recFullTo(396 + d.roll(5))(&r)
	}
	if r.Up && d.roll(8) == 0 {
		r.Wishes = recManyWishes(18 + d.roll(3))
	}
	return r
}

// recFaultOf is empty by promise 26: what was answered is valid, and all that it holds is ok; what was held before stands ahead.
func recFaultOf(before, after impl.Recorder) string {
	ok := func(m impl.RecMessage) bool { return impl.RecMessageOk(m, after.Of) && m.From == after.Number }
	switch {
	case !impl.RecValid(after) || !recIsValid(after):
		return "not valid"
	case !all(after.Held, ok):
		return "a message that is held is not ok"
	case len(after.Held) < len(before.Held) || !same(after.Held[:len(before.Held)], before.Held):
		return "what was held is not there"
	case !same(after.Safe, before.Safe) || after.Number != before.Number || after.Of != before.Of || after.Up != before.Up:
		return "something was changed that no message changes"
	}
	return ""
}

// Promise 26, as far as it is of RecTake, over made-up recorders and messages; and each answer by the second reading.
func TestRecPromise26Take(t *testing.T) {
	t.Parallel()
	d := dice(2301)
	changed, kept := map[int]int{}, map[int]int{}
	for i := range 30000 {
		r := d.recLively()
		m := d.recMeets(r)
		got := impl.RecTake(r, m)
		if fault := recFaultOf(r, got); fault != "" {
			t.Fatalf("%d, %+v to %+v: %s: %+v", i, m, r, fault, got)
		}
		if want := recTakenAsRead(r, m); !same(got, want) {
			t.Fatalf("%d, %+v to %+v:\n%+v, not\n%+v", i, m, r, got, want)
		}
		if same(got, r) {
			kept[m.Kind]++
		} else {
			changed[m.Kind]++
		}
	}
	for kind := impl.RecPrepare; kind <= impl.RecRefuse; kind++ {
		if changed[kind] < 200 || kept[kind] < 200 {
			t.Errorf("Kind %d changed something %d times, and nothing %d times", kind, changed[kind], kept[kind])
		}
	}
}

func TestRecPromise26Wish(t *testing.T) {
	t.Parallel()
	d := dice(2302)
	counts := map[bool]int{}
	for i := range 10000 {
		r, text := d.recLively(), pick(&d, d.recText(), "c", "x", letters(161))
		got := impl.RecWish(r, text)
		if fault := recFaultOf(r, got); fault != "" {
			t.Fatalf("%d, %.9q to %+v: %s: %+v", i, text, r, fault, got)
		}
		if want := recWishedAsRead(r, text); !same(got, want) {
			t.Fatalf("%d, %.9q to %+v:\n%+v, not\n%+v", i, text, r, got, want)
		}
		counts[same(got, r)]++
	}
	if counts[true] < 1000 || counts[false] < 1000 {
		t.Errorf("%v: too few of one", counts)
	}
}

// A recorder that is spoilt is nothing afterwards, or, if it is still valid, what the second reading says.
func TestRecTakeOfSpoiltOnes(t *testing.T) {
	t.Parallel()
	d := dice(2303)
	counts := map[bool]int{}
	for i := range 10000 {
		r := d.recLively()
		for range 1 + d.roll(2) {
			d.recSpoil(&r)
		}
		m, text := d.recMeets(r), d.recText()
		if got, want := impl.RecTake(r, m), recTakenAsRead(r, m); !same(got, want) {
			t.Fatalf("%d, %+v to %+v:\n%+v, not\n%+v", i, m, r, got, want)
		}
		if got, want := impl.RecWish(r, text), recWishedAsRead(r, text); !same(got, want) {
			t.Fatalf("%d, %.9q to %+v:\n%+v, not\n%+v", i, text, r, got, want)
		}
		counts[recIsValid(r)]++
	}
	if counts[true] < 1500 || counts[false] < 1500 {
		t.Errorf("%v: too few of one", counts)
	}
}

// Arguments stay as they are, and answers are new memory, whatever is taken.
func TestRecTakeMemory(t *testing.T) {
	t.Parallel()
	d := dice(2304)
	for range 2500 {
		r := spread(d.recLively())
		m := spread(d.recMeets(r))
		rBefore, mBefore := whole(r), whole(m)
		taken, wished := impl.RecTake(r, m), impl.RecWish(r, m.Text)
		newMemory(t, "RecTake", taken, r, m)
		newMemory(t, "RecWish", wished, r)
		if !same(whole(r), rBefore) || !same(whole(m), mBefore) {
			t.Fatalf("an argument was changed: %+v by %+v", r, m)
		}
		if again := impl.RecTake(r, m); !same(again, taken) {
			t.Fatalf("twice, and another answer: %+v by %+v", r, m)
		}
	}
}

// recExchange lets recorders take what they hold for each other, lost, doubled and turned around, with made-up messages and wishes between. It tells how many messages were held, texts wished and places known at most.
func recExchange(t *testing.T, d *dice, of, steps int) (held, wished, known int) {
	t.Helper()
	var row []impl.Recorder
	for number := 1; number <= of; number++ {
		row = append(row, impl.RecNew(number, of))
	}
	var flight []impl.RecMessage
	for step := range steps {
		at := d.roll(of)
		m := d.recMeets(row[at])
		if len(flight) > 0 && d.roll(2) == 0 {
			m = flight[d.roll(len(flight))]
			at = m.To - 1
		}
		next := impl.RecTake(row[at], m)
		if d.roll(6) == 0 {
			next = impl.RecWish(next, fmt.Sprint("wish ", d.roll(60)))
		}
		if fault := recFaultOf(row[at], next); fault != "" {
			t.Fatalf("step %d, %+v to %+v: %s: %+v", step, m, row[at], fault, next)
		}
		flight = append(flight, next.Held[len(row[at].Held):]...)
		flight = flight[max(0, len(flight)-50):]
		row[at] = next
		held, wished, known = max(held, len(next.Held)), max(wished, len(next.Wishes)), max(known, next.Disk.Known)
	}
	return held, wished, known
}

// Promise 26, of recorders that go on and on by what they are sent.
func TestRecPromise26Exchange(t *testing.T) {
	t.Parallel()
	d := dice(2305)
	for round := range 10 {
		of := 1 + round%5
		held, wished, known := recExchange(t, &d, of, 800+1000*of)
		if of > 1 && (held != 400 || wished != 20 || known < 5) {
			t.Errorf("of %d: at most %d were held, %d wished and %d known", of, held, wished, known)
		}
	}
}
