package tests

import (
	"fmt"
	"slices"
	"testing"

	"loop.example/wharfdesk/impl"
)

// recVow is a promise to 2 under recTrier's Ballot.
func recVow(from int, slots ...impl.RecSlot) impl.RecMessage {
	return impl.RecMessage{Kind: impl.RecPromised, From: from, To: 2, Ballot: 6, Slots: slots}
}

func recSaidYes(numbers ...int) recTurn {
	return func(r *impl.Recorder) { r.Yes = numbers }
}

func recHasBest(list ...impl.RecSlot) recTurn {
	return func(r *impl.Recorder) { r.Best = list }
}

func recComesToLead(r *impl.Recorder) {
	r.Lead, r.Trying, r.Yes, r.Best, r.Acks = true, false, nil, nil, nil
}

func TestRecTakePromisedUnderAnother(t *testing.T) {
	for _, from := range []int{1, 2, 3, 4} {
		for _, ballot := range []int{0, 1, 5, 7, 8, 9, 1000000} {
			m := recVow(from, recSlot(4, "z"))
			m.Ballot = ballot
			recTakes(t, fmt.Sprintf("trying, from %d, Ballot %d", from, ballot), recTrier(), m)
		}
		recTakes(t, fmt.Sprint("leading, from ", from), recLeader(), recVow(from, recSlot(4, "z")))
		recTakes(t, fmt.Sprint("quiet, from ", from), recAwake(), recVow(from, recSlot(4, "z")))
	}
	nothing := impl.RecMessage{Kind: impl.RecPromised, From: 1, To: 2, Slots: recSlots(recSlot(4, "z"))}
	recTakes(t, "quiet, and Ballot 0 as its own", recAwake(), nothing)
	recTakes(t, "a new one, and Ballot 0", impl.RecNew(2, 3), nothing)
}

// Of 4 there must be 3.
func TestRecTakePromisedThatIsNotTheLast(t *testing.T) {
	for _, c := range []struct {
		yes  []int
		from int
		want []int
	}{
		{nil, 1, []int{1}}, {nil, 2, []int{2}}, {nil, 4, []int{4}},
		{[]int{2}, 1, []int{1, 2}}, {[]int{2}, 3, []int{2, 3}}, {[]int{2}, 4, []int{2, 4}}, {[]int{4}, 3, []int{3, 4}}, {[]int{1}, 4, []int{1, 4}},
		{[]int{2}, 2, []int{2}}, {[]int{1, 4}, 1, []int{1, 4}}, {[]int{1, 4}, 4, []int{1, 4}},
	} {
		what := fmt.Sprintf("Yes %v, from %d", c.yes, c.from)
		r := recWith(recTrier(), recSaidYes(c.yes...))
		recTakes(t, what+", nothing taken", r, recVow(c.from), recSaidYes(c.want...))
		// Best is merged, also of one that had promised before.
		slots := recSlots(recSlot(6, "x"), recSlot(1, "y"), recSlot(3, "z"), recSlot(2, "v"))
		merged := recHasBest(recSlot(6, "x"), recSlot(1, "y"), recSlot(3, ""), recSlot(2, "v"))
		recTakes(t, what, r, recVow(c.from, slots...), recSaidYes(c.want...), merged)
		recTakes(t, what+", no Best", recWith(r, recHasBest()), recVow(c.from, slots...), recSaidYes(c.want...), recHasBest(slots...))
	}
	full := recSome(120, recSlot(1000000, letters(160)))
	recTakes(t, "120 slots", recWith(recTrier(), recSaidYes()), recVow(3, full...), recSaidYes(3), recHasBest(full...))
}

// Just the promise that makes more than half makes one lead, whoever it is from, and in whatever order they come.
func TestRecTakePromisedByMoreThanHalf(t *testing.T) {
	needed := []int{1: 1, 2: 2, 3: 2, 4: 3, 5: 3}
	for of := 1; of <= 5; of++ {
		for number := 1; number <= of; number++ {
			for first := range of {
				r := impl.Recorder{Number: number, Of: of, Up: true, Disk: impl.RecDisk{Promise: 9}, Trying: true, Ballot: 7, Heard: 5}
				for count := 1; count <= needed[of]; count++ {
					from := 1 + (first+2*count)%of
					if of%2 == 0 {
						from = 1 + (first+count)%of
					}
					for _, twice := range []bool{false, true} {
						if twice && r.Lead {
							break
						}
						r = impl.RecTake(r, impl.RecMessage{Kind: impl.RecPromised, From: from, To: number, Ballot: 7})
						if leads := count == needed[of]; r.Lead != leads || r.Trying == leads || r.Ballot != 7 || r.Heard != 5 || !impl.RecValid(r) {
							t.Fatalf("%d of %d, %d promises: %+v", number, of, count, r)
						}
						if !r.Lead && (len(r.Yes) != count || !slices.Contains(r.Yes, from)) {
							t.Fatalf("%d of %d, %d promises: Yes %v", number, of, count, r.Yes)
						}
					}
				}
				if len(r.Yes)+len(r.Best)+len(r.Acks)+len(r.Held)+len(r.Disk.Slots) != 0 {
					t.Fatalf("%d of %d: %+v", number, of, r)
				}
			}
		}
	}
	// One that had more than half already leads by the next one, also from who is among them.
	for _, from := range []int{1, 2, 3, 4} {
		r := recWith(recTrier(), recSaidYes(1, 3, 4), recHasBest())
		recTakes(t, fmt.Sprint("more than half already, from ", from), r, recVow(from), recComesToLead)
	}
}

// recTrier knows 2 places, its Disk has 4: a, b, one that is empty, and d.
func TestRecTakePromisedIsPutOnTheDisk(t *testing.T) {
	a, b, none, d := recSlot(2, "a"), recSlot(8, "b"), recSlot(0, ""), recSlot(8, "d")
	x, y, z, v := recSlot(5, "x"), recSlot(5, "y"), recSlot(5, "z"), recSlot(1, "v")
	own := func(text string) impl.RecSlot { return recSlot(6, text) }
	for _, c := range []struct {
		what       string
		best, told []impl.RecSlot
		want       []impl.RecSlot
	}{
		{"nothing was taken", nil, nil, recSlots(a, b, none, d)},
		{"places below Known", recSlots(x), nil, recSlots(a, b, none, d)},
		{"places up to Known", recSlots(x, y), recSlots(v), recSlots(a, b, none, d)},
		{"one above Known", recSlots(x), recSlots(v, v, z), recSlots(a, b, own("z"), d)},
		{"one above Known, of Best alone", recSlots(x, y, z), nil, recSlots(a, b, own("z"), d)},
		{"an empty one above Known", recSlots(x, y, none), recSlots(none), recSlots(a, b, own(""), d)},
		{"as many as the Disk has", recSlots(x, y, z, v), recSlots(x), recSlots(a, b, own("z"), own("v"))},
		{"empty ones, as many as the Disk has", recSlots(none, none), recSlots(none, none, none, none), recSlots(a, b, own(""), own(""))},
		{"one more than the Disk has", recSlots(x, y), recSlots(none, none, none, none, v), recSlots(a, b, own(""), own(""), own("v"))},
		{"more than the Disk has", recSlots(x, y, z, none, none, none, v), recSlots(v), recSlots(a, b, own("z"), own(""), own(""), own(""), own("v"))},
		{"the greater Ballot of what was promised", recSlots(x, y, v), recSlots(v, v, z), recSlots(a, b, own("z"), d)},
		{"the greater Ballot of Best", recSlots(x, y, z), recSlots(v, v, v), recSlots(a, b, own("z"), d)},
		{"Best's where Ballots are equal", recSlots(x, y, z), recSlots(x, x, x), recSlots(a, b, own("z"), d)},
		{"a Ballot above its own", recSlots(x, y, z), recSlots(x, x, recSlot(1000000, "w")), recSlots(a, b, own("w"), d)},
		{"a Ballot that is the Disk's, with another text", recSlots(x, y, z, recSlot(8, "w")), nil, recSlots(a, b, own("z"), own("w"))},
	} {
		for _, from := range []int{2, 3} {
			r := recWith(recTrier(), recHasBest(c.best...))
			recTakes(t, fmt.Sprintf("%s, from %d", c.what, from), r, recVow(from, c.told...), recComesToLead, recHasSlots(c.want...))
		}
	}
}

func TestRecTakePromisedOfAllPlaces(t *testing.T) {
	full := recNumbered(120, "p", func(place int) int { return 1 + place })
	want := recAwake().Disk.Slots[:2]
	for _, s := range full[2:] {
		want = append(want, recSlot(6, s.Text))
	}
	recTakes(t, "all places", recWith(recTrier(), recHasBest()), recVow(3, full...), recComesToLead, recHasSlots(want...))
	known := recWith(recTrier(), recHasBest(), recHasSlots(recSome(120, recSlot(8, "k"))...), recKnows(120))
	recTakes(t, "all places are known", known, recVow(3, full...), recComesToLead)
	fresh := recWith(recTrier(), recHasBest(), recHasSlots(), recKnows(0))
	recTakes(t, "nothing on the Disk", fresh, recVow(3, recSlot(0, ""), recSlot(3, "q")), recComesToLead, recHasSlots(recSlot(6, ""), recSlot(6, "q")))
}
