package tests

import (
	"fmt"
	"testing"

	"loop.example/wharfdesk/impl"
)

// recChanges says what a fall or a rise makes of a recorder, in new memory, nothing that was handed in being changed.
func recChanges(t *testing.T, what string, r impl.Recorder, does func(impl.Recorder) impl.Recorder, want impl.Recorder) {
	t.Helper()
	r = spread(r)
	before := whole(r)
	got := does(r)
	if !same(got, want) {
		t.Errorf("%s:\n%+v, not\n%+v", what, got, want)
	}
	newMemory(t, what, got, r)
	if !same(whole(r), before) {
		t.Errorf("%s: the argument was changed", what)
	}
}

// recDisks are such as may be Safe, or the Disk, of one that is quiet.
func recDisks() map[string]impl.RecDisk {
	return map[string]impl.RecDisk{
		"nothing":         {},
		"a promise alone": {Promise: 1000000},
		"less":            recAwake().Safe,
		"more":            recAwake().Disk,
		"all places":      {Promise: 8, Known: 120, Slots: recSome(120, recSlot(8, letters(160)))},
	}
}

func TestRecFall(t *testing.T) {
	for sort, made := range recRoles() {
		for name, safe := range recDisks() {
			r := recWith(made(), func(r *impl.Recorder) { r.Safe = safe })
			want := impl.Recorder{Number: 2, Of: 4, Safe: safe, Disk: safe}
			recChanges(t, fmt.Sprintf("%s, %s is safe", sort, name), r, impl.RecFall, want)
			recChanges(t, fmt.Sprintf("%s, %s is safe, once more", sort, name), want, impl.RecFall, want)
		}
		recChanges(t, sort+", 400 held", recWith(made(), func(r *impl.Recorder) {
			if r.Up {
				recFullTo(400)(r)
				r.Wishes, r.Heard = recManyWishes(20), 1000000
			}
		}), impl.RecFall, impl.Recorder{Number: 2, Of: 4, Safe: made().Safe, Disk: made().Safe})
	}
	// The Disk of one that fell is what was safe, also where it is another one.
	for name, disk := range recDisks() {
		r := recWith(recDown(), func(r *impl.Recorder) { r.Disk = disk })
		recChanges(t, "down, with a Disk of "+name, r, impl.RecFall, recDown())
	}
	recChanges(t, "leading with much that is not safe", recCaptain(), impl.RecFall, impl.Recorder{Number: 2, Of: 3, Safe: recCaptain().Safe, Disk: recCaptain().Safe})
	for of := 1; of <= 5; of++ {
		for number := 1; number <= of; number++ {
			recChanges(t, fmt.Sprintf("a new one, %d of %d", number, of), impl.RecNew(number, of), impl.RecFall, impl.Recorder{Number: number, Of: of})
		}
	}
}

// Neither disk is touched by a rise, not even where they differ.
func TestRecRise(t *testing.T) {
	for safeName, safe := range recDisks() {
		for name, disk := range recDisks() {
			r := impl.Recorder{Number: 3, Of: 5, Safe: safe, Disk: disk}
			want := impl.Recorder{Number: 3, Of: 5, Up: true, Safe: safe, Disk: disk}
			recChanges(t, fmt.Sprintf("%s is safe, %s on the Disk", safeName, name), r, impl.RecRise, want)
		}
	}
	for sort, made := range recUp() {
		recChanges(t, sort, made(), impl.RecRise, made())
		full := recWith(made(), recFullTo(400), recWishes(recManyWishes(20)...))
		recChanges(t, sort+", 400 held", full, impl.RecRise, full)
	}
	for of := 1; of <= 5; of++ {
		for number := 1; number <= of; number++ {
			recChanges(t, fmt.Sprintf("%d of %d", number, of), impl.Recorder{Number: number, Of: of}, impl.RecRise, impl.RecNew(number, of))
		}
	}
}

func TestRecFallAndRiseOfOneThatIsNotValid(t *testing.T) {
	for sort, made := range recRoles() {
		for what, spoil := range recSpoilt() {
			recChanges(t, sort+", "+what+", a fall", recWith(made(), spoil), impl.RecFall, impl.Recorder{})
			recChanges(t, sort+", "+what+", a rise", recWith(made(), spoil), impl.RecRise, impl.Recorder{})
		}
	}
	for what, r := range map[string]impl.Recorder{"nothing": {}, "nothing but Up": {Up: true}, "not Up, with something held": recWith(recDown(), recFullTo(1))} {
		recChanges(t, what+", a fall", r, impl.RecFall, impl.Recorder{})
		recChanges(t, what+", a rise", r, impl.RecRise, impl.Recorder{})
	}
}

// What is told before the disk is safe is not told at all: one that falls ahead of the tick asks for the same ballot once more, which nobody has heard of.
func TestRecFallAheadOfTheTick(t *testing.T) {
	r := recWith(impl.RecNew(2, 3), recHeardFor(10))
	r, sent := impl.RecTick(r)
	if len(sent) != 0 || len(r.Held) != 2 || r.Ballot != 2 {
		t.Fatalf("%+v sends %+v", r, sent)
	}
	lost := impl.RecRise(impl.RecFall(r))
	if !same(lost, impl.RecNew(2, 3)) {
		t.Errorf("%+v", lost)
	}
	r, sent = impl.RecTick(r)
	kept := impl.RecRise(impl.RecFall(r))
	if len(sent) != 2 || !same(kept, recWith(impl.RecNew(2, 3), recPromises(2), func(r *impl.Recorder) { r.Safe.Promise = 2 })) {
		t.Errorf("%+v, %+v was sent", kept, sent)
	}
	kept, _ = impl.RecTick(recWith(kept, recHeardFor(10)))
	if kept.Ballot != 5 {
		t.Errorf("%+v", kept)
	}
}
