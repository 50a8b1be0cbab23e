package tests

import (
	"cmp"
	"fmt"
	"math"
	"slices"
	"testing"

	"loop.example/wharfdesk/impl"
)

// recMerges says what two lists give, that it is new memory, and that the lists stay as they are.
func recMerges(t *testing.T, what string, a, b, want []impl.RecSlot) {
	t.Helper()
	a, b = spread(a), spread(b)
	aBefore, bBefore := whole(a), whole(b)
	got := impl.RecMerge(a, b)
	if !same(got, want) {
		t.Errorf("%s: %v, not %v", what, got, want)
	}
	newMemory(t, what, got, a, b)
	for i := range got[:cap(got)] {
		got[:cap(got)][i] = recSlot(-99, sentinel)
	}
	if !same(whole(a), aBefore) || !same(whole(b), bBefore) {
		t.Errorf("%s: an argument was changed", what)
	}
}

func TestRecMerge(t *testing.T) {
	one, two := recSlot(1, "one"), recSlot(2, "two")
	other, none := recSlot(1, "other"), recSlot(0, "")
	for _, c := range []struct {
		what       string
		a, b, want []impl.RecSlot
	}{
		{"both empty", nil, nil, nil},
		{"both empty lists", recSlots(), recSlots(), nil},
		{"a empty", nil, recSlots(one, none, two), recSlots(one, none, two)},
		{"b empty", recSlots(one, none, two), nil, recSlots(one, none, two)},
		{"a shorter, and lower", recSlots(one), recSlots(two, other, none), recSlots(two, other, none)},
		{"a shorter, and higher", recSlots(two), recSlots(one, other, none), recSlots(two, other, none)},
		{"b shorter, and lower", recSlots(two, other, none), recSlots(one), recSlots(two, other, none)},
		{"b shorter, and higher", recSlots(one, other, none), recSlots(two), recSlots(two, other, none)},
		{"a shorter by one", recSlots(one, two), recSlots(other, one, none), recSlots(one, two, none)},
		{"b shorter by one", recSlots(one, two, none), recSlots(other, one), recSlots(one, two, none)},
		{"equal Ballots, a's", recSlots(one), recSlots(other), recSlots(one)},
		{"equal Ballots, turned around", recSlots(other), recSlots(one), recSlots(other)},
		{"equal Ballots, a's Text empty", recSlots(recSlot(1, "")), recSlots(one), recSlots(recSlot(1, ""))},
		{"equal Ballots, b's Text empty", recSlots(one), recSlots(recSlot(1, "")), recSlots(one)},
		{"the same in both", recSlots(one, none, two), recSlots(one, none, two), recSlots(one, none, two)},
		{"the greater Ballot in a", recSlots(two), recSlots(one), recSlots(two)},
		{"the greater Ballot in b", recSlots(one), recSlots(two), recSlots(two)},
		{"the greater Ballot in each", recSlots(one, two, one, two), recSlots(two, one, other, none), recSlots(two, two, one, two)},
		{"an empty slot under one", recSlots(none), recSlots(one), recSlots(one)},
		{"an empty slot over one", recSlots(one), recSlots(none), recSlots(one)},
		{"the greater Ballot has a lesser Text", recSlots(recSlot(1, "z")), recSlots(recSlot(2, "a")), recSlots(recSlot(2, "a"))},
		{"the greater Ballot has no Text", recSlots(recSlot(1, "z")), recSlots(recSlot(2, "")), recSlots(recSlot(2, ""))},
		{"Ballots of more digits", recSlots(recSlot(9, "a"), recSlot(1000000, "a")), recSlots(recSlot(10, "b"), recSlot(999999, "b")), recSlots(recSlot(10, "b"), recSlot(1000000, "a"))},
		{"empty slots at the end of the longer one", recSlots(one), recSlots(none, none, none), recSlots(one, none, none)},
	} {
		recMerges(t, c.what, c.a, c.b, c.want)
	}
}

// It answers at lists that are not ok, by the same words.
func TestRecMergeOfWhatIsNotOk(t *testing.T) {
	long := letters(161)
	for _, c := range []struct {
		what       string
		a, b, want []impl.RecSlot
	}{
		{"Ballots below 0, a's greater", recSlots(recSlot(-1, "a")), recSlots(recSlot(-2, "b")), recSlots(recSlot(-1, "a"))},
		{"Ballots below 0, b's greater", recSlots(recSlot(-2, "a")), recSlots(recSlot(-1, "b")), recSlots(recSlot(-1, "b"))},
		{"Ballots below 0, equal", recSlots(recSlot(-1, "a")), recSlots(recSlot(-1, "b")), recSlots(recSlot(-1, "a"))},
		{"a Ballot below 0 under an empty slot", recSlots(recSlot(-1, "a")), recSlots(recSlot(0, "")), recSlots(recSlot(0, ""))},
		{"an empty slot over a Ballot below 0", recSlots(recSlot(0, "")), recSlots(recSlot(-1, "b")), recSlots(recSlot(0, ""))},
		{"a Ballot below 0 where the other has no place", recSlots(recSlot(-1, "a")), nil, recSlots(recSlot(-1, "a"))},
		{"a Ballot below 0 where the first has no place", nil, recSlots(recSlot(-1, "b")), recSlots(recSlot(-1, "b"))},
		{"Texts with Ballot 0", recSlots(recSlot(0, "a")), recSlots(recSlot(0, "b")), recSlots(recSlot(0, "a"))},
		{"a Text with Ballot 0 in b alone", recSlots(recSlot(0, "")), recSlots(recSlot(0, "b")), recSlots(recSlot(0, ""))},
		{"a Text with Ballot 0, over nothing", nil, recSlots(recSlot(0, "b")), recSlots(recSlot(0, "b"))},
		{"Ballots as far as they go", recSlots(recSlot(math.MinInt, "a"), recSlot(math.MaxInt, "a")), recSlots(recSlot(math.MaxInt, "b"), recSlot(math.MinInt, "b")), recSlots(recSlot(math.MaxInt, "b"), recSlot(math.MaxInt, "a"))},
		{"a Ballot above the greatest", recSlots(recSlot(1000000, "a")), recSlots(recSlot(1000001, "b")), recSlots(recSlot(1000001, "b"))},
		{"Texts that are too long", recSlots(recSlot(1, long), recSlot(1, "a")), recSlots(recSlot(1, "b"), recSlot(2, long)), recSlots(recSlot(1, long), recSlot(2, long))},
	} {
		recMerges(t, c.what, c.a, c.b, c.want)
	}
}

// recNumbered are so many slots, told apart by their texts, with ballots that go up and down.
func recNumbered(n int, sort string, ballot func(place int) int) []impl.RecSlot {
	var list []impl.RecSlot
	for place := range n {
		list = append(list, recSlot(ballot(place), fmt.Sprintf("%s%d", sort, place)))
	}
	return list
}

func TestRecMergeMany(t *testing.T) {
	lengths := []int{0, 1, 2, 60, 119, 120, 121, 122, 240, 241, 1000, 5000}
	for _, m := range lengths {
		for _, n := range lengths {
			a := recNumbered(m, "a", func(place int) int { return 1 + place%3 })
			b := recNumbered(n, "b", func(place int) int { return 1 + place%4 })
			recMerges(t, fmt.Sprintf("%d and %d slots", m, n), a, b, recMergedBy(a, b))
		}
	}
	full := recNumbered(120, "a", func(place int) int { return place + 1 })
	recMerges(t, "as many as may be, twice", full, full, full)
	recMerges(t, "121, the last of which counts", recSome(120, recSlot(1, "a")), recSome(121, recSlot(2, "b")), recSome(121, recSlot(2, "b")))
	recMerges(t, "121, the last of which is alone", recSome(121, recSlot(1, "a")), recSome(120, recSlot(1, "b")), recSome(121, recSlot(1, "a")))
}

// The two lists may have memory in common, or be the same.
func TestRecMergeOfOneMemory(t *testing.T) {
	row := spread(recSlots(recSlot(3, "a"), recSlot(1, "b"), recSlot(4, "c"), recSlot(1, "d")))
	before := whole(row)
	for what, c := range map[string]struct{ a, b, want []impl.RecSlot }{
		"the same list":       {row, row, slices.Clone(row)},
		"its beginning":       {row[:2], row, slices.Clone(row)},
		"what is behind":      {row[:3], row[1:], recSlots(recSlot(3, "a"), recSlot(4, "c"), recSlot(4, "c"))},
		"what is ahead":       {row[1:], row[:3], recSlots(recSlot(3, "a"), recSlot(4, "c"), recSlot(4, "c"))},
		"nothing of it twice": {row[:0], row[4:], nil},
	} {
		got := impl.RecMerge(c.a, c.b)
		if !same(got, c.want) {
			t.Errorf("%s: %v, not %v", what, got, c.want)
		}
		newMemory(t, what, got, row)
		if !same(whole(row), before) {
			t.Errorf("%s: the list was changed", what)
		}
	}
}

// What was answered stays, whatever is asked later.
func TestRecMergeKeepsNothing(t *testing.T) {
	for _, n := range []int{1, 3, 120, 121, 300} {
		a, b := recSome(n, recSlot(1, "a")), recSome(n, recSlot(2, "b"))
		first := impl.RecMerge(a, b)
		second := impl.RecMerge(b, recSome(n, recSlot(3, "c")))
		if !same(first, recSome(n, recSlot(2, "b"))) || !same(second, recSome(n, recSlot(3, "c"))) {
			t.Errorf("%d slots: %v and %v", n, first, second)
		}
		newMemory(t, fmt.Sprintf("%d slots", n), first, second)
		if third := impl.RecMerge(a[:0], b[:0]); len(third) != 0 {
			t.Errorf("%d slots: %v of nothing", n, third)
		}
	}
}

// recMergedBy is the document's sentence, read a second time: of the slots that there are for a place the first of those with the greatest Ballot.
func recMergedBy(a, b []impl.RecSlot) []impl.RecSlot {
	var there [][]impl.RecSlot
	for _, list := range [][]impl.RecSlot{a, b} {
		for place, s := range list {
			if place == len(there) {
				there = append(there, nil)
			}
			there[place] = append(there[place], s)
		}
	}
	var merged []impl.RecSlot
	for _, some := range there {
		merged = append(merged, slices.MaxFunc(some, func(x, y impl.RecSlot) int { return cmp.Compare(x.Ballot, y.Ballot) }))
	}
	return merged
}

// recPromise24 holds of any two lists.
func recPromise24(t *testing.T, a, b []impl.RecSlot) {
	t.Helper()
	merged := impl.RecMerge(a, b)
	if len(merged) != max(len(a), len(b)) {
		t.Fatalf("%d places of %v and %v", len(merged), a, b)
	}
	for place, s := range merged {
		inA, inB := place < len(a), place < len(b)
		if !(inA && s == a[place] || inB && s == b[place]) {
			t.Fatalf("place %d is neither's: %v of %v and %v", place, s, a, b)
		}
		if inA && s.Ballot < a[place].Ballot || inB && s.Ballot < b[place].Ballot {
			t.Fatalf("place %d has not the greatest ballot: %v of %v and %v", place, s, a, b)
		}
	}
	for _, one := range [][]impl.RecSlot{a, b, merged} {
		if again := impl.RecMerge(merged, one); !same(again, merged) {
			t.Fatalf("%v with %v is %v", merged, one, again)
		}
	}
	// Turned around it holds of a, whose slots come first where Ballots are equal.
	if again := impl.RecMerge(a, merged); !same(again, merged) {
		t.Fatalf("%v with %v is %v", a, merged, again)
	}
	if want := recMergedBy(a, b); !same(merged, want) {
		t.Fatalf("%v, not %v, of %v and %v", merged, want, a, b)
	}
}

// Promise 24, of each two lists of up to three slots of four sorts.
func TestRecPromise24OneByOne(t *testing.T) {
	lists := [][]impl.RecSlot{nil}
	for grown := lists; len(grown[0]) < 3; {
		var next [][]impl.RecSlot
		for _, list := range grown {
			for _, s := range recSlots(recSlot(0, ""), recSlot(1, "a"), recSlot(1, "b"), recSlot(2, "")) {
				next = append(next, append(slices.Clone(list), s))
			}
		}
		lists, grown = append(lists, next...), next
	}
	if len(lists) != 1+4+16+64 {
		t.Fatalf("%d lists", len(lists))
	}
	for _, a := range lists {
		for _, b := range lists {
			recPromise24(t, a, b)
		}
	}
}

func (d *dice) recText() string {
	return pick(d, "", "a", "b", "ab", "c", "\xff", letters(160))
}

// recOkSlots are ok, with ballots up to most.
func (d *dice) recOkSlots(n, most int) []impl.RecSlot {
	var list []impl.RecSlot
	for range n {
		s := recSlot(d.roll(most+1), "")
		if s.Ballot > 0 {
			s.Text = d.recText()
		}
		list = append(list, s)
	}
	return list
}

// recAnySlots are ok by chance alone.
func (d *dice) recAnySlots(n int) []impl.RecSlot {
	var list []impl.RecSlot
	for range n {
		list = append(list, recSlot(pick(d, -1, -1, 0, 0, 1, 2, 3, 1000000, 1000001, math.MinInt, math.MaxInt), pick(d, d.recText(), letters(161))))
	}
	return list
}

// Promise 24, over made-up lists.
func TestRecPromise24MadeUp(t *testing.T) {
	t.Parallel()
	d := dice(2401)
	for range 20000 {
		recPromise24(t, d.recOkSlots(d.roll(12), 1+d.roll(5)), d.recOkSlots(d.roll(12), 1+d.roll(5)))
		recPromise24(t, d.recAnySlots(d.roll(8)), d.recAnySlots(d.roll(8)))
	}
	for range 500 {
		recPromise24(t, d.recOkSlots(d.roll(121), 1+d.roll(1000000)), d.recOkSlots(d.roll(121), 1+d.roll(1000000)))
		recPromise24(t, d.recAnySlots(d.roll(260)), d.recAnySlots(d.roll(260)))
	}
}

// What is merged of slots that are ok is ok: later chapters keep it.
func TestRecMergeOfOkSlots(t *testing.T) {
	t.Parallel()
	d := dice(2402)
	for range 3000 {
		a, b := d.recOkSlots(d.roll(121), 1+d.roll(9)), d.recOkSlots(d.roll(121), 1+d.roll(9))
		if disk := (impl.RecDisk{Promise: 9, Slots: impl.RecMerge(a, b)}); !impl.RecDiskOk(disk) {
			t.Fatalf("not ok: %v of %v and %v", disk.Slots, a, b)
		}
	}
}
