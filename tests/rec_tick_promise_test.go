package tests

import (
	"fmt"
	"slices"
	"testing"

	"loop.example/wharfdesk/impl"
)

// recTickedAsRead is chapter 24, read a second time.
func recTickedAsRead(r impl.Recorder) recTicked {
	switch {
	case !recIsValid(r):
		return recTicked{}
	case !r.Up:
		return recTicked{Next: r}
	}
	x := recReading{r: spread(r)}
	sent := slices.Clone(r.Held)
	known := map[string]bool{}
	for _, s := range r.Disk.Slots[:r.Disk.Known] {
		known[s.Text] = true
	}
	recBegins(&x.r)
	x.r.Wishes = nil
	for _, text := range r.Wishes {
		if !known[text] {
			x.r.Wishes = append(x.r.Wishes, text)
		}
	}
	if x.r.Trying && r.Disk.Promise == r.Ballot {
		x.m = impl.RecMessage{From: r.Number, Slots: slices.Clone(r.Disk.Slots)}
		x.promise()
	}
	switch waited := x.r.Heard; {
	case x.r.Lead:
		sent = append(sent, x.leads()...)
	case waited > []int{1: 7, 2: 10, 3: 13, 4: 16, 5: 19}[r.Number]:
		x.triesAnew()
	}
	return recTicked{x.r, sent}
}

func (x *recReading) leads() []impl.RecMessage {
	r := &x.r
	for place, s := range r.Safe.Slots {
		if s.Ballot == r.Ballot {
			x.m = impl.RecMessage{From: r.Number, Index: place + 1}
			x.took()
		}
	}
	taken := map[string]bool{}
	for _, s := range r.Disk.Slots {
		taken[s.Text] = taken[s.Text] || s.Ballot > 0
	}
	for _, text := range r.Wishes {
		if index := len(r.Disk.Slots) + 1; !taken[text] && index <= 120 {
			x.put(index, impl.RecSlot{Ballot: r.Ballot, Text: text})
		}
	}
	return recLeadsWith(r.Number, r.Of, r.Ballot, r.Disk.Known, recTexts(r.Disk.Slots[r.Disk.Known:])...)
}

// triesAnew goes through the ballots one by one.
func (x *recReading) triesAnew() {
	recIsQuiet(&x.r)
	x.r.Heard = 0
	for ballot := x.r.Disk.Promise + 1; ballot <= 1000000; ballot++ {
		if (ballot-x.r.Number)%x.r.Of == 0 {
			recTriesAnew(ballot)(&x.r)
			return
		}
	}
}

func recFallenAsRead(r impl.Recorder) impl.Recorder {
	if !recIsValid(r) {
		return impl.Recorder{}
	}
	return impl.Recorder{Number: r.Number, Of: r.Of, Safe: r.Safe, Disk: r.Safe}
}

func recRisenAsRead(r impl.Recorder) impl.Recorder {
	if !recIsValid(r) {
		return impl.Recorder{}
	}
	r.Up = true
	return r
}

// recBusy is valid, and such that each part of a tick has something to do, often enough.
func (d *dice) recBusy() impl.Recorder {
	return d.recMadeBusy(d.recLively())
}

func (d *dice) recMadeBusy(r impl.Recorder) impl.Recorder {
	if !r.Up {
		return r
	}
	if d.roll(3) == 0 {
		r.Heard = pick(d, 4+3*r.Number-2, 4+3*r.Number-1, 4+3*r.Number, 4+3*r.Number+1, 999999, 1000000)
	}
	if d.roll(2) == 0 && (r.Lead || r.Trying) {
		r.Ballot = r.Disk.Promise
	}
	if d.roll(8) == 0 {
		r.Disk.Promise = 999994 + d.roll(7)
		if r.Lead || r.Trying {
			r.Ballot = pick(d, r.Ballot, r.Disk.Promise)
		}
	}
	if d.roll(6) == 0 && r.Disk.Promise > 0 {
		n := 110 + d.roll(11)
		for len(r.Disk.Slots) < n {
			r.Disk.Slots = append(r.Disk.Slots, recSlot(1+d.roll(r.Disk.Promise), fmt.Sprint("p", len(r.Disk.Slots))))
		}
	}
	return r
}

// recGoesBack is empty by promise 27, of anything but a fall.
func recGoesBack(before, after impl.Recorder) string {
	switch {
	case after.Disk.Promise < before.Disk.Promise:
		return "the Promise went back"
	case after.Disk.Known < before.Disk.Known:
		return "Known went back"
	}
	return ""
}

// recTickFault is empty by promises 26 and 27, of a tick.
func recTickFault(before impl.Recorder, after recTicked) string {
	ok := func(m impl.RecMessage) bool {
		return impl.RecMessageOk(m, before.Of) && recMessageIsOk(m, before.Of) && m.From == before.Number
	}
	switch {
	case !impl.RecValid(after.Next) || !recIsValid(after.Next):
		return "not valid"
	case !all(after.Sent, ok):
		return "a message that is sent is not ok"
	case before.Up && !same(after.Next.Safe, before.Disk):
		return "Safe is not what the Disk was"
	}
	return recGoesBack(before, after.Next)
}

// recFallFault is empty by promises 26 and 27, of a fall.
func recFallFault(before, after impl.Recorder) string {
	switch {
	case !impl.RecValid(after) || !recIsValid(after):
		return "not valid"
	case !same(after.Disk, before.Safe) || !same(after.Safe, before.Safe):
		return "the Disk is not what was Safe"
	case after.Up:
		return "it is Up"
	}
	return ""
}

// recRiseFault is empty by promises 26 and 27, of a rise.
func recRiseFault(before, after impl.Recorder) string {
	switch {
	case !impl.RecValid(after) || !recIsValid(after):
		return "not valid"
	case !after.Up:
		return "it is not Up"
	}
	return recGoesBack(before, after)
}

func recTick(r impl.Recorder) recTicked {
	next, sent := impl.RecTick(r)
	return recTicked{next, sent}
}

// recCourse is what a tick was to a recorder, to be counted.
func recCourse(before, after impl.Recorder) string {
	was, is := recRoleName(before), recRoleName(after)
	switch {
	case was != is:
		return was + " to " + is
	case is == "leading" && after.Disk.Known > before.Disk.Known:
		return "comes to know"
	case is == "leading" && len(after.Disk.Slots) > len(before.Disk.Slots):
		return "brings in"
	case is == "trying" && after.Ballot != before.Ballot:
		return "tries anew"
	case is == "trying" && len(after.Yes) > len(before.Yes):
		return "promises itself"
	case len(after.Wishes) < len(before.Wishes):
		return "drops wishes"
	}
	return was
}

func recRoleName(r impl.Recorder) string {
	switch {
	case !r.Up:
		return "down"
	case r.Lead:
		return "leading"
	case r.Trying:
		return "trying"
	}
	return "quiet"
}

// Promises 26 and 27 over made-up recorders, of a tick; and each answer by the second reading.
func TestRecPromises26And27Tick(t *testing.T) {
	t.Parallel()
	d := dice(2401)
	counts := map[string]int{}
	for i := range 20000 {
		r := d.recBusy()
		got := recTick(r)
		if fault := recTickFault(r, got); fault != "" {
			t.Fatalf("%d, %+v: %s: %+v", i, r, fault, got)
		}
		if want := recTickedAsRead(r); !same(got, want) {
			t.Fatalf("%d, %+v:\n%+v, not\n%+v", i, r, got, want)
		}
		counts[recCourse(r, got.Next)]++
	}
	for _, course := range []string{"down", "quiet", "trying", "leading", "quiet to trying", "trying to leading", "trying to quiet", "comes to know", "brings in", "tries anew", "promises itself", "drops wishes"} {
		if counts[course] < 30 {
			t.Errorf("%s: too few in %v", course, counts)
		}
	}
}

// The same of falls and rises; and promise 27 of what is taken and wished for.
func TestRecPromises26And27OfAllElse(t *testing.T) {
	t.Parallel()
	d := dice(2402)
	for i := range 10000 {
		r := d.recBusy()
		fallen, risen := impl.RecFall(r), impl.RecRise(r)
		if fault := recFallFault(r, fallen); fault != "" || !same(fallen, recFallenAsRead(r)) {
			t.Fatalf("%d, a fall of %+v: %s: %+v", i, r, fault, fallen)
		}
		if fault := recRiseFault(r, risen); fault != "" || !same(risen, recRisenAsRead(r)) {
			t.Fatalf("%d, a rise of %+v: %s: %+v", i, r, fault, risen)
		}
		m, text := d.recMeets(r), d.recText()
		for what, next := range map[string]impl.Recorder{"taken": impl.RecTake(r, m), "wished": impl.RecWish(r, text)} {
			if fault := recGoesBack(r, next); fault != "" || !recIsValid(next) || !same(next.Safe, r.Safe) {
				t.Fatalf("%d, %s by %+v: %+v, %q: %s: %+v", i, what, r, m, text, fault, next)
			}
		}
	}
}

// A recorder that is spoilt is nothing afterwards, or, if it is still valid, what the second reading says.
func TestRecTickOfSpoiltOnes(t *testing.T) {
	t.Parallel()
	d := dice(2403)
	counts := map[bool]int{}
	for i := range 10000 {
		r := d.recBusy()
		for range 1 + d.roll(2) {
			d.recSpoil(&r)
		}
		if got, want := recTick(r), recTickedAsRead(r); !same(got, want) {
			t.Fatalf("%d, a tick of %+v:\n%+v, not\n%+v", i, r, got, want)
		}
		if got, want := impl.RecFall(r), recFallenAsRead(r); !same(got, want) {
			t.Fatalf("%d, a fall of %+v:\n%+v, not\n%+v", i, r, got, want)
		}
		if got, want := impl.RecRise(r), recRisenAsRead(r); !same(got, want) {
			t.Fatalf("%d, a rise of %+v:\n%+v, not\n%+v", i, r, got, want)
		}
		counts[recIsValid(r)]++
	}
	if counts[true] < 1500 || counts[false] < 1500 {
		t.Errorf("%v: too few of one", counts)
	}
}

// Arguments stay as they are, and answers are new memory: the recorder, and what it sends.
func TestRecTickMemory(t *testing.T) {
	t.Parallel()
	d := dice(2404)
	for range 1500 {
		r := spread(d.recBusy())
		before := whole(r)
		ticked, fallen, risen := recTick(r), impl.RecFall(r), impl.RecRise(r)
		newMemory(t, "RecTick", ticked, r)
		newMemory(t, "RecFall", fallen, r)
		newMemory(t, "RecRise", risen, r)
		if !same(whole(r), before) {
			t.Fatalf("the argument was changed: %+v", r)
		}
		if again := recTick(r); !same(again, ticked) {
			t.Fatalf("twice, and another answer: %+v", r)
		}
	}
}

// recFleet are recorders and what they have sent each other; nothing else is ever sent to them.
type recFleet struct {
	row    []impl.Recorder
	flight []impl.RecMessage
	wishes int
}

func recNewFleet(of int) recFleet {
	var f recFleet
	for number := 1; number <= of; number++ {
		f.row = append(f.row, impl.RecNew(number, of))
	}
	return f
}

func (f *recFleet) tick(t *testing.T, at int) {
	t.Helper()
	got := recTick(f.row[at])
	if fault := recTickFault(f.row[at], got); fault != "" {
		t.Fatalf("a tick of %+v: %s: %+v", f.row[at], fault, got)
	}
	f.row[at], f.flight = got.Next, append(f.flight, got.Sent...)
	f.flight = f.flight[max(0, len(f.flight)-600):]
}

// bring lets a message be taken, and leaves it in flight if it is doubled.
func (f *recFleet) bring(t *testing.T, place int, doubled bool) {
	t.Helper()
	m := f.flight[place]
	if !doubled {
		f.flight = slices.Delete(f.flight, place, place+1)
	}
	at := m.To - 1
	next := impl.RecTake(f.row[at], m)
	fault := recFaultOf(f.row[at], next)
	if back := recGoesBack(f.row[at], next); fault != "" || back != "" {
		t.Fatalf("%+v to %+v: %s%s: %+v", m, f.row[at], fault, back, next)
	}
	f.row[at] = next
}

func (f *recFleet) wish(at int) {
	f.wishes++
	f.row[at] = impl.RecWish(f.row[at], fmt.Sprint("wish ", f.wishes))
}

func (f *recFleet) fallOrRise(t *testing.T, at int, falls bool) {
	t.Helper()
	r := f.row[at]
	if falls {
		f.row[at] = impl.RecFall(r)
		if fault := recFallFault(r, f.row[at]); fault != "" {
			t.Fatalf("a fall of %+v: %s: %+v", r, fault, f.row[at])
		}
		return
	}
	f.row[at] = impl.RecRise(r)
	if fault := recRiseFault(r, f.row[at]); fault != "" {
		t.Fatalf("a rise of %+v: %s: %+v", r, fault, f.row[at])
	}
}

func (f *recFleet) happen(t *testing.T, d *dice) {
	t.Helper()
	at := d.roll(len(f.row))
	switch what := d.roll(100); {
	case what < 25:
		f.tick(t, at)
	case what < 28:
		f.wish(at)
	case what < 29:
		f.fallOrRise(t, at, true)
	case what < 34:
		f.fallOrRise(t, at, false)
	case len(f.flight) > 0 && what < 90:
		f.bring(t, d.roll(min(20, len(f.flight))), what < 40)
	case len(f.flight) > 0:
		f.flight = slices.Delete(f.flight, 0, 1)
	}
}

// apart is a place for which two recorders know two texts, or -1.
func (f *recFleet) apart() int {
	for _, a := range f.row {
		for _, b := range f.row {
			for place := range min(a.Disk.Known, b.Disk.Known) {
				if a.Disk.Slots[place].Text != b.Disk.Slots[place].Text {
					return place
				}
			}
		}
	}
	return -1
}

// Promises 26 and 27 of recorders that go on and on by what they send each other, lost, doubled and turned around, with falls between. None of them knows what another one does not.
func TestRecPromises26And27Fleet(t *testing.T) {
	t.Parallel()
	for round := range 15 {
		d, of := dice(2405+round), 1+round%5
		f := recNewFleet(of)
		falls, known := 0, 0
		for step := range 4000 {
			before := slices.Clone(f.row)
			f.happen(t, &d)
			if place := f.apart(); place >= 0 {
				t.Fatalf("of %d, step %d: place %d is known in two ways: %+v", of, step, place, f.row)
			}
			for i, r := range f.row {
				known = max(known, r.Disk.Known)
				if before[i].Up && !r.Up {
					falls++
				}
			}
		}
		if known < 3 || falls < 5 {
			t.Errorf("of %d: %d places were known at most, %d falls", of, known, falls)
		}
	}
}

// With nothing lost and nobody falling, what is wished for comes to be known by all of them.
func TestRecTicksLeadToABook(t *testing.T) {
	for of := 1; of <= 5; of++ {
		f := recNewFleet(of)
		for at := range of {
			f.wish(at)
		}
		for range 30 {
			for at := range of {
				f.tick(t, at)
			}
			for range len(f.flight) {
				f.bring(t, 0, false)
			}
		}
		for at, r := range f.row {
			book := impl.RecBook(r)
			for n := 1; n <= of; n++ {
				if !slices.Contains(book, fmt.Sprint("wish ", n)) {
					t.Errorf("of %d, %d: wish %d is not in %q", of, at+1, n, book)
				}
			}
			if len(book) != of || len(r.Wishes) != 0 {
				t.Errorf("of %d, %d: %q, and %q are left", of, at+1, book, r.Wishes)
			}
		}
	}
}
