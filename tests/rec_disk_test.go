package tests

import (
	"math"
	"slices"
	"testing"

	"loop.example/wharfdesk/impl"
)

func recSlot(ballot int, text string) impl.RecSlot {
	return impl.RecSlot{Ballot: ballot, Text: text}
}

func recSlots(list ...impl.RecSlot) []impl.RecSlot {
	return list
}

// recSome are as many slots, all the same.
func recSome(n int, s impl.RecSlot) []impl.RecSlot {
	return slices.Repeat(recSlots(s), n)
}

// recDisk is ok: two places are known, the second with an empty text; then there is one that was taken, one that was not, and one that was taken, without a text, under the Promise itself.
func recDisk() impl.RecDisk {
	return impl.RecDisk{Promise: 7, Known: 2, Slots: recSlots(recSlot(3, "a"), recSlot(1, ""), recSlot(5, "b"), recSlot(0, ""), recSlot(7, ""))}
}

// Places of slots in recDisk.
const (
	recKnownSlot = iota
	recKnownBare
	recTakenSlot
	recEmptySlot
	recPromisedSlot
)

type recDiskTurn = func(*impl.RecDisk)

func recDiskTurned(turn recDiskTurn) impl.RecDisk {
	d := recDisk()
	turn(&d)
	return d
}

func recCheckDisk(t *testing.T, what string, d impl.RecDisk, want bool) {
	t.Helper()
	d = spread(d)
	before := whole(d)
	if got := impl.RecDiskOk(d); got != want {
		t.Errorf("%s: %v", what, got)
	}
	if !same(whole(d), before) {
		t.Errorf("%s: the disk was changed", what)
	}
}

// aroundEnds are numbers at the two ends of what may be, beyond them, and as far as numbers go.
func aroundEnds(least, most int) []int {
	return []int{math.MinInt, least - 2, least - 1, least, most, most + 1, most + 2, math.MaxInt, -1, 0, 1}
}

// Each number of a disk stands from its least to its most, all else being as in recDisk.
func TestRecDiskOkNumbers(t *testing.T) {
	ballot := func(place int) func(*impl.RecDisk, int) {
		return func(d *impl.RecDisk, n int) { d.Slots[place].Ballot = n }
	}
	lone := func(s impl.RecSlot) func(*impl.RecDisk, int) {
		return func(d *impl.RecDisk, n int) { *d = impl.RecDisk{Promise: n, Slots: recSlots(s)} }
	}
	known := func(slots ...impl.RecSlot) func(*impl.RecDisk, int) {
		return func(d *impl.RecDisk, n int) { *d = impl.RecDisk{Promise: 9, Known: n, Slots: slots} }
	}
	for _, f := range []struct {
		what  string
		least int
		most  int
		put   func(*impl.RecDisk, int)
	}{
		{"Promise", 7, 1000000, func(d *impl.RecDisk, n int) { d.Promise = n }},
		{"Promise of nothing", 0, 1000000, func(d *impl.RecDisk, n int) { *d = impl.RecDisk{Promise: n} }},
		{"Promise with an empty slot", 0, 1000000, lone(recSlot(0, ""))},
		{"Promise with a slot", 1, 1000000, lone(recSlot(1, "a"))},
		{"Promise with a slot of the greatest Ballot", 1000000, 1000000, lone(recSlot(1000000, "a"))},
		{"Ballot of a known slot", 1, 7, ballot(recKnownSlot)},
		{"Ballot of a known slot without a Text", 1, 7, ballot(recKnownBare)},
		{"Ballot of a slot with a Text", 1, 7, ballot(recTakenSlot)},
		{"Ballot of a slot without a Text", 0, 7, ballot(recEmptySlot)},
		{"Ballot of the last slot", 0, 7, ballot(recPromisedSlot)},
		{"Ballot, the Promise being the greatest", 0, 1000000, func(d *impl.RecDisk, n int) {
			d.Promise, d.Slots[recPromisedSlot].Ballot = 1000000, n
		}},
		{"Ballot and Promise, down to the other slots'", 5, 1000000, func(d *impl.RecDisk, n int) { d.Promise, d.Slots[recPromisedSlot].Ballot = n, n }},
		{"Known, up to an empty slot", 0, 3, func(d *impl.RecDisk, n int) { d.Known = n }},
		{"Known of no slots", 0, 0, known()},
		{"Known of slots", 0, 3, known(recSlot(1, "a"), recSlot(9, "b"), recSlot(4, ""))},
		{"Known, the first slot being empty", 0, 0, known(recSlot(0, ""), recSlot(9, "b"), recSlot(4, ""))},
		{"Known, the last slot being empty", 0, 2, known(recSlot(1, "a"), recSlot(9, "b"), recSlot(0, ""))},
		{"Known of all slots that there may be", 0, 120, known(recSome(120, recSlot(2, "a"))...)},
	} {
		for _, n := range aroundEnds(f.least, f.most) {
			recCheckDisk(t, f.what, recDiskTurned(func(d *impl.RecDisk) { f.put(d, n) }), f.least <= n && n <= f.most)
			if t.Failed() {
				t.Fatalf("%s of %d", f.what, n)
			}
		}
	}
}

func TestRecDiskOkSlots(t *testing.T) {
	of := func(slots []impl.RecSlot) recDiskTurn {
		return func(d *impl.RecDisk) { d.Known, d.Slots = 0, slots }
	}
	at := func(place int, s impl.RecSlot) recDiskTurn {
		return func(d *impl.RecDisk) { d.Slots[place] = s }
	}
	for _, c := range []struct {
		what string
		want bool
		turn recDiskTurn
	}{
		{"the disk", true, func(*impl.RecDisk) {}},
		{"nothing", true, func(d *impl.RecDisk) { *d = impl.RecDisk{} }},
		{"an empty list", true, func(d *impl.RecDisk) { *d = impl.RecDisk{Slots: recSlots()} }},

		{"119 slots", true, of(recSome(119, recSlot(1, "a")))},
		{"120 slots", true, of(recSome(120, recSlot(1, "a")))},
		{"121 slots", false, of(recSome(121, recSlot(1, "a")))},
		{"120 empty slots", true, of(recSome(120, recSlot(0, "")))},
		{"121 empty slots", false, of(recSome(121, recSlot(0, "")))},
		{"1000 slots", false, of(recSome(1000, recSlot(1, "a")))},
		{"121 slots, all known", false, func(d *impl.RecDisk) { d.Known, d.Slots = 121, recSome(121, recSlot(1, "a")) }},

		{"Ballot 0 with a Text", false, at(recEmptySlot, recSlot(0, "x"))},
		{"Ballot 0 with a Text that is a zero byte", false, at(recEmptySlot, recSlot(0, "\x00"))},
		{"Ballot 0 with a Text, the last", false, at(recPromisedSlot, recSlot(0, "x"))},
		{"Ballot below 0 with a Text", false, at(recEmptySlot, recSlot(-1, "x"))},
		{"Ballot below 0 without a Text", false, at(recEmptySlot, recSlot(-1, ""))},
		{"the same text twice", true, at(recTakenSlot, recSlot(3, "a"))},
		{"Ballots that go down", true, at(recPromisedSlot, recSlot(1, "a"))},

		{"a Text of 160 bytes", true, at(recTakenSlot, recSlot(5, letters(160)))},
		{"a Text of 161 bytes", false, at(recTakenSlot, recSlot(5, letters(161)))},
		{"a known Text of 160 bytes", true, at(recKnownSlot, recSlot(5, letters(160)))},
		{"a known Text of 161 bytes", false, at(recKnownSlot, recSlot(5, letters(161)))},
		{"the last Text of 161 bytes", false, at(recPromisedSlot, recSlot(7, letters(161)))},
		{"a Text of 160 bytes with Ballot 0", false, at(recEmptySlot, recSlot(0, letters(160)))},
		{"a Text of 160 bytes that are 159 letters", true, at(recTakenSlot, recSlot(5, letters(80)+"é"+letters(78)))},
		{"a Text of 161 bytes that are 160 letters", false, at(recTakenSlot, recSlot(5, "é"+letters(159)))},
		{"a Text of any bytes", true, at(recTakenSlot, recSlot(5, "\x00\xff \n\"é"))},

		{"an empty slot that is the first of the known ones", false, at(recKnownSlot, recSlot(0, ""))},
		{"an empty slot that is the last of the known ones", false, at(recKnownBare, recSlot(0, ""))},
		{"an empty slot just behind the known ones", true, at(recTakenSlot, recSlot(0, ""))},
		{"a Promise of 0 with slots", false, func(d *impl.RecDisk) { d.Promise = 0 }},
		{"a Promise of 0 with empty slots", true, func(d *impl.RecDisk) { *d = impl.RecDisk{Slots: recSome(3, recSlot(0, ""))} }},
		{"empty slots that are known", false, func(d *impl.RecDisk) { *d = impl.RecDisk{Known: 1, Slots: recSome(3, recSlot(0, ""))} }},
		{"all known", true, func(d *impl.RecDisk) { d.Known, d.Slots = 3, d.Slots[:3] }},
		{"more known than there are", false, func(d *impl.RecDisk) { d.Known, d.Slots = 4, d.Slots[:3] }},
		{"none known", true, func(d *impl.RecDisk) { d.Known = 0 }},
	} {
		recCheckDisk(t, c.what, recDiskTurned(c.turn), c.want)
	}
}

// A slot stands behind the end of a list: it is none of the list's, neither to be known nor to be wrong.
func TestRecDiskOkBehindTheEnd(t *testing.T) {
	slots := recSlots(recSlot(1, "a"), recSlot(2, "b"), recSlot(0, "wrong"))
	recCheckDisk(t, "ahead of a wrong one", impl.RecDisk{Promise: 2, Known: 2, Slots: slots[:2]}, true)
	if !impl.RecDiskOk(impl.RecDisk{Promise: 2, Known: 1, Slots: slots[:1]}) {
		t.Error("one of three")
	}
	if impl.RecDiskOk(impl.RecDisk{Promise: 2, Known: 2, Slots: slots[:1]}) {
		t.Error("known behind the end")
	}
}
