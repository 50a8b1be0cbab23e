package tests

import (
	"fmt"
	"slices"
	"testing"

	"loop.example/wharfdesk/impl"
)

// recAwake is quiet, with something in each field that one may have who is quiet and Up. Its Disk is ahead of what is Safe.
func recAwake() impl.Recorder {
	return impl.Recorder{
		Number: 2, Of: 4, Up: true,
		Safe: impl.RecDisk{Promise: 6, Known: 1, Slots: recSlots(recSlot(2, "a"), recSlot(6, "b"))},
		Disk: impl.RecDisk{Promise: 8, Known: 2, Slots: recSlots(recSlot(2, "a"), recSlot(8, "b"), recSlot(0, ""), recSlot(8, "d"))},
		Held: []impl.RecMessage{
			{Kind: impl.RecAccepted, From: 2, To: 1, Ballot: 8, Index: 4},
			{Kind: impl.RecPromised, From: 2, To: 4, Ballot: 8, Slots: recSlots(recSlot(2, "a"), recSlot(0, ""))},
			{Kind: impl.RecWished, From: 2, To: 2, Text: "e"},
		},
		Wishes: []string{"e", "d", "f"},
		Heard:  3,
	}
}

// recDown is not Up.
func recDown() impl.Recorder {
	r := recAwake()
	return impl.Recorder{Number: r.Number, Of: r.Of, Safe: r.Safe, Disk: r.Safe}
}

func recLeader() impl.Recorder {
	r := recAwake()
	r.Lead, r.Ballot = true, 6
	r.Acks = []impl.RecAck{{Index: 3, From: []int{1, 2, 4}}, {Index: 4, From: nil}, {Index: 9, From: []int{3}}}
	return r
}

func recTrier() impl.Recorder {
	r := recAwake()
	r.Trying, r.Ballot = true, 6
	r.Yes, r.Best = []int{1, 4}, recSlots(recSlot(5, "b"), recSlot(0, ""), recSlot(3, ""))
	return r
}

// recRoles are valid, one of each sort.
func recRoles() map[string]func() impl.Recorder {
	return map[string]func() impl.Recorder{"quiet": recAwake, "down": recDown, "leading": recLeader, "trying": recTrier}
}

func recCheckValid(t *testing.T, what string, r impl.Recorder, want bool) {
	t.Helper()
	r = spread(r)
	before := whole(r)
	if got := impl.RecValid(r); got != want {
		t.Errorf("%s: %v", what, got)
	}
	if !same(whole(r), before) {
		t.Errorf("%s: the recorder was changed", what)
	}
}

type recCase struct {
	what string
	want bool
	turn func(*impl.Recorder)
}

func recCheckAll(t *testing.T, sort string, made func() impl.Recorder, cases []recCase) {
	t.Helper()
	for _, c := range cases {
		r := made()
		c.turn(&r)
		recCheckValid(t, sort+", "+c.what, r, c.want)
	}
}

func TestRecValidOnes(t *testing.T) {
	for sort, made := range recRoles() {
		recCheckValid(t, sort, made(), true)
	}
	recCheckValid(t, "nothing", impl.Recorder{}, false)
	recCheckValid(t, "nothing but Up", impl.Recorder{Up: true}, false)
	recCheckValid(t, "nothing but one of one", impl.Recorder{Number: 1, Of: 1}, true)
	recCheckValid(t, "empty lists", impl.Recorder{Number: 1, Of: 1, Held: []impl.RecMessage{}, Wishes: []string{}, Yes: []int{}, Best: recSlots(), Acks: []impl.RecAck{}}, true)
}

// Of and Number, as far as nothing else hangs on them.
func TestRecValidNumberOf(t *testing.T) {
	for of := -2; of <= 8; of++ {
		for number := -2; number <= 8; number++ {
			want := of >= 1 && of <= 5 && number >= 1 && number <= of
			for _, up := range []bool{false, true} {
				recCheckValid(t, fmt.Sprintf("%d of %d, Up %v", number, of, up), impl.Recorder{Number: number, Of: of, Up: up}, want)
			}
		}
	}
	for sort, made := range recRoles() {
		recCheckAll(t, sort, made, []recCase{
			{"Of 0", false, func(r *impl.Recorder) { r.Of = 0 }},
			{"Of below 0", false, func(r *impl.Recorder) { r.Of = -4 }},
			{"Of 5", true, func(r *impl.Recorder) { r.Of = 5 }},
			{"Of 6", false, func(r *impl.Recorder) { r.Of = 6 }},
			{"Of below Number", false, func(r *impl.Recorder) { r.Of = 1 }},
			{"Number 0", false, func(r *impl.Recorder) { r.Number = 0; recHeldFrom(r, 0) }},
			{"Number below 0", false, func(r *impl.Recorder) { r.Number = -1; recHeldFrom(r, -1) }},
			{"Number 1", true, func(r *impl.Recorder) { r.Number = 1; recHeldFrom(r, 1) }},
			{"Number 4", true, func(r *impl.Recorder) { r.Number = 4; recHeldFrom(r, 4) }},
			{"Number 5", false, func(r *impl.Recorder) { r.Number = 5; recHeldFrom(r, 5) }},
		})
	}
}

// recHeldFrom has all that is held be from another number.
func recHeldFrom(r *impl.Recorder, number int) {
	for i := range r.Held {
		r.Held[i].From = number
	}
}

func TestRecValidDisks(t *testing.T) {
	var cases []recCase
	for name, of := range map[string]func(*impl.Recorder) *impl.RecDisk{
		"Safe": func(r *impl.Recorder) *impl.RecDisk { return &r.Safe },
		"Disk": func(r *impl.Recorder) *impl.RecDisk { return &r.Disk },
	} {
		for _, c := range []struct {
			what string
			want bool
			turn recDiskTurn
		}{
			{"Promise at its most", true, func(d *impl.RecDisk) { d.Promise = 1000000 }},
			{"Promise one more", false, func(d *impl.RecDisk) { d.Promise = 1000001 }},
			{"Promise below a slot's Ballot", false, func(d *impl.RecDisk) { d.Slots[0].Ballot = d.Promise + 1 }},
			{"Known below 0", false, func(d *impl.RecDisk) { d.Known = -1 }},
			{"Known 0", true, func(d *impl.RecDisk) { d.Known = 0 }},
			{"Known one more than there are", false, func(d *impl.RecDisk) { d.Known = len(d.Slots) + 1 }},
			{"an empty slot that is known", false, func(d *impl.RecDisk) { d.Slots[0] = recSlot(0, "") }},
			{"a Text with Ballot 0", false, func(d *impl.RecDisk) { d.Slots[1] = recSlot(0, "x") }},
			{"a Text of 160 bytes", true, func(d *impl.RecDisk) { d.Slots[0].Text = letters(160) }},
			{"a Text of 161 bytes", false, func(d *impl.RecDisk) { d.Slots[0].Text = letters(161) }},
			{"120 slots", true, func(d *impl.RecDisk) { d.Slots = recSome(120, recSlot(1, "a")) }},
			{"121 slots", false, func(d *impl.RecDisk) { d.Slots = recSome(121, recSlot(1, "a")) }},
		} {
			cases = append(cases, recCase{name + ": " + c.what, c.want, func(r *impl.Recorder) {
				d := of(r)
				d.Slots = slices.Clone(d.Slots)
				c.turn(d)
			}})
		}
	}
	for sort, made := range recRoles() {
		recCheckAll(t, sort, made, cases)
	}
	// Neither disk hangs on the other one.
	recCheckAll(t, "down", recDown, []recCase{
		{"Disk ahead of Safe", true, func(r *impl.Recorder) { r.Disk = recAwake().Disk }},
		{"Disk behind Safe", true, func(r *impl.Recorder) { r.Disk = impl.RecDisk{} }},
		{"nothing Safe", true, func(r *impl.Recorder) { r.Safe = impl.RecDisk{} }},
	})
	recCheckAll(t, "quiet", recAwake, []recCase{
		{"Disk behind Safe", true, func(r *impl.Recorder) { r.Safe, r.Disk = r.Disk, r.Safe }},
		{"another text that is known", true, func(r *impl.Recorder) { r.Disk.Slots[0].Text = "z" }},
	})
}

// recUp are those that may have something held, wished or heard.
func recUp() map[string]func() impl.Recorder {
	roles := recRoles()
	delete(roles, "down")
	return roles
}

func TestRecValidHeld(t *testing.T) {
	held := func(n int) func(*impl.Recorder) {
		return func(r *impl.Recorder) { r.Held = slices.Repeat(r.Held[:1], n) }
	}
	at := func(place int, turn func(*impl.RecMessage)) func(*impl.Recorder) {
		return func(r *impl.Recorder) { turn(&r.Held[place]) }
	}
	for sort, made := range recUp() {
		recCheckAll(t, sort, made, []recCase{
			{"nothing held", true, func(r *impl.Recorder) { r.Held = nil }},
			{"399 held", true, held(399)},
			{"400 held", true, held(400)},
			{"401 held", false, held(401)},
			{"2000 held", false, held(2000)},
			{"400 held, the last of no Kind", false, func(r *impl.Recorder) { held(400)(r); r.Held[399].Kind = 0 }},
			{"one of no Kind", false, at(0, func(m *impl.RecMessage) { m.Kind = 0 })},
			{"the last of no Kind", false, at(2, func(m *impl.RecMessage) { m.Kind = 10 })},
			{"one with a Ballot below 0", false, at(1, func(m *impl.RecMessage) { m.Ballot = -1 })},
			{"one with a Ballot above the Promise", true, at(1, func(m *impl.RecMessage) { m.Ballot = 1000000 })},
			{"one with an Index of 121", false, at(1, func(m *impl.RecMessage) { m.Index = 121 })},
			{"one with a Known of 121", false, at(1, func(m *impl.RecMessage) { m.Known = 121 })},
			{"one with a Text that is too long", false, at(1, func(m *impl.RecMessage) { m.Text = letters(161) })},
			{"one with Slots that are not ok", false, at(1, func(m *impl.RecMessage) { m.Slots = recSlots(recSlot(0, "x")) })},
			{"one From the one ahead", false, at(0, func(m *impl.RecMessage) { m.From = 1 })},
			{"one From the one behind", false, at(1, func(m *impl.RecMessage) { m.From = 3 })},
			{"the last From another", false, at(2, func(m *impl.RecMessage) { m.From = 4 })},
			{"one From nobody", false, at(1, func(m *impl.RecMessage) { m.From = 0 })},
			{"one To itself", true, at(0, func(m *impl.RecMessage) { m.To = 2 })},
			{"one To the last", true, at(0, func(m *impl.RecMessage) { m.To = 4 })},
			{"one To one more", false, at(0, func(m *impl.RecMessage) { m.To = 5 })},
			{"one To nobody", false, at(0, func(m *impl.RecMessage) { m.To = 0 })},
		})
	}
	// To goes by Of.
	recCheckAll(t, "quiet", recAwake, []recCase{
		{"Of 5 and one To 5", true, func(r *impl.Recorder) { r.Of, r.Held[0].To = 5, 5 }},
		{"Of 3 and one To 4", false, func(r *impl.Recorder) { r.Of = 3 }},
	})
}

func TestRecValidWishes(t *testing.T) {
	wishes := func(list ...string) func(*impl.Recorder) {
		return func(r *impl.Recorder) { r.Wishes = list }
	}
	many := func(n int) []string {
		var list []string
		for i := range n {
			list = append(list, fmt.Sprint("wish ", i))
		}
		return list
	}
	for sort, made := range recUp() {
		recCheckAll(t, sort, made, []recCase{
			{"no Wishes", true, wishes()},
			{"19 Wishes", true, wishes(many(19)...)},
			{"20 Wishes", true, wishes(many(20)...)},
			{"21 Wishes", false, wishes(many(21)...)},
			{"500 Wishes", false, wishes(many(500)...)},
			{"two the same", false, wishes("a", "a")},
			{"two the same, with another between", false, wishes("a", "b", "a")},
			{"the first and the last of 20 the same", false, wishes(append(many(19), "wish 0")...)},
			{"the last two of 20 the same", false, wishes(append(many(19), "wish 18")...)},
			{"one that begins another", true, wishes("a", "ab", "abc")},
			{"not in order", true, wishes("c", "a", "b")},
			{"an empty one", false, wishes("")},
			{"an empty one behind others", false, wishes("a", "b", "")},
			{"an empty one ahead of others", false, wishes("", "a")},
			{"one of 160 bytes", true, wishes(letters(160))},
			{"one of 161 bytes", false, wishes(letters(161))},
			{"one of 161 bytes behind others", false, wishes("a", "b", letters(161))},
			{"one of 161 bytes that are 160 letters", false, wishes("é" + letters(159))},
			{"one of one byte that is no letter", true, wishes("\xff", "\x00")},
			{"one that is known", true, wishes("a", "b")},
		})
	}
}

func TestRecValidHeard(t *testing.T) {
	for sort, made := range recUp() {
		for _, n := range aroundEnds(0, 1000000) {
			r := made()
			r.Heard = n
			recCheckValid(t, fmt.Sprintf("%s, Heard %d", sort, n), r, n >= 0 && n <= 1000000)
		}
	}
}

// recNumberLists are those of Yes, and of the From of an ack, for an Of of 4.
var recNumberLists = []struct {
	want bool
	list []int
}{
	{true, nil}, {true, []int{}}, {true, []int{1}}, {true, []int{2}}, {true, []int{4}}, {true, []int{1, 2, 3, 4}}, {true, []int{2, 4}},
	{false, []int{0}}, {false, []int{-1}}, {false, []int{5}}, {false, []int{6}},
	{false, []int{0, 1}}, {false, []int{4, 5}}, {false, []int{1, 2, 3, 4, 5}}, {false, []int{0, 1, 2, 3, 4}},
	{false, []int{2, 1}}, {false, []int{1, 3, 2}}, {false, []int{4, 1}}, {false, []int{4, 3, 2, 1}},
	{false, []int{1, 1}}, {false, []int{4, 4}}, {false, []int{1, 2, 2}}, {false, []int{1, 2, 1}}, {false, []int{1, 2, 3, 4, 4}},
}

func TestRecValidYesAndFrom(t *testing.T) {
	for _, c := range recNumberLists {
		trier := recTrier()
		trier.Yes = c.list
		recCheckValid(t, fmt.Sprint("Yes ", c.list), trier, c.want)
		for place := range recLeader().Acks {
			leader := recLeader()
			leader.Acks[place].From = c.list
			recCheckValid(t, fmt.Sprintf("From %v of ack %d", c.list, place), leader, c.want)
		}
	}
	recCheckAll(t, "trying", recTrier, []recCase{
		{"Yes by an Of of 5", true, func(r *impl.Recorder) { r.Of, r.Yes = 5, []int{1, 5} }},
		{"Yes of itself alone", true, func(r *impl.Recorder) { r.Yes = []int{2} }},
	})
	recCheckAll(t, "leading", recLeader, []recCase{
		{"From by an Of of 5", true, func(r *impl.Recorder) { r.Of, r.Acks[0].From = 5, []int{1, 5} }},
	})
}

func TestRecValidBest(t *testing.T) {
	best := func(list []impl.RecSlot) func(*impl.Recorder) {
		return func(r *impl.Recorder) { r.Best = list }
	}
	recCheckAll(t, "trying", recTrier, []recCase{
		{"no Best", true, best(nil)},
		{"Best of 120", true, best(recSome(120, recSlot(1, "a")))},
		{"Best of 121", false, best(recSome(121, recSlot(1, "a")))},
		{"Best of 121 empty slots", false, best(recSome(121, recSlot(0, "")))},
		{"a Ballot below 0", false, best(recSlots(recSlot(1, "a"), recSlot(-1, "")))},
		{"a Ballot above its own, and the Promise", true, best(recSlots(recSlot(9, "a")))},
		{"a Ballot at its most", true, best(recSlots(recSlot(1000000, "a")))},
		{"a Ballot one more", false, best(recSlots(recSlot(1000001, "a")))},
		{"a Text with Ballot 0", false, best(recSlots(recSlot(1, "a"), recSlot(0, "x")))},
		{"a Text of 160 bytes", true, best(recSlots(recSlot(1, letters(160))))},
		{"a Text of 161 bytes", false, best(recSlots(recSlot(1, letters(161))))},
	})
}

func TestRecValidAcks(t *testing.T) {
	of := func(indices ...int) func(*impl.Recorder) {
		return func(r *impl.Recorder) {
			r.Acks = nil
			for _, index := range indices {
				r.Acks = append(r.Acks, impl.RecAck{Index: index, From: []int{1, 2}})
			}
		}
	}
	var each []int
	for index := range 120 {
		each = append(each, index+1)
	}
	recCheckAll(t, "leading", recLeader, []recCase{
		{"no Acks", true, of()},
		{"Index 1", true, of(1)},
		{"Index 0", false, of(0)},
		{"Index 0 ahead of others", false, of(0, 1, 2)},
		{"Index below 0", false, of(-1)},
		{"Index 120", true, of(120)},
		{"Index 121", false, of(121)},
		{"Index 121 behind others", false, of(1, 120, 121)},
		{"each Index", true, of(each...)},
		{"each Index, and 0", false, of(append([]int{0}, each...)...)},
		{"each Index, and 121", false, of(append(slices.Clone(each), 121)...)},
		{"Index as of a place that the Disk has not", true, of(77)},
		{"ascending, with gaps", true, of(2, 5, 100)},
		{"turned around", false, of(2, 1)},
		{"the last turned around", false, of(1, 3, 2)},
		{"the same twice", false, of(3, 3)},
		{"the same twice, behind others", false, of(1, 2, 3, 3)},
		{"the same twice, From others", false, func(r *impl.Recorder) {
			r.Acks = []impl.RecAck{{Index: 3, From: []int{1}}, {Index: 3, From: []int{2}}}
		}},
		{"From none", true, func(r *impl.Recorder) { r.Acks = []impl.RecAck{{Index: 3}} }},
	})
}

// Ballot 0, 1, the Disk's Promise and one more, while it leads, tries, and is quiet.
func TestRecValidBallot(t *testing.T) {
	for sort, made := range recRoles() {
		for _, n := range append(aroundEnds(1, 8), 6, 7, 1000000) {
			r := made()
			r.Ballot = n
			want := n >= 1 && n <= r.Disk.Promise
			if !r.Lead && !r.Trying {
				want = n == 0
			}
			recCheckValid(t, fmt.Sprintf("%s, Ballot %d", sort, n), r, want)
		}
	}
	// It is the Disk's Promise that counts, not what is Safe.
	for _, made := range []func() impl.Recorder{recLeader, recTrier} {
		recCheckAll(t, "leading or trying", made, []recCase{
			{"Ballot up to the Disk's Promise, above what is Safe", true, func(r *impl.Recorder) { r.Ballot = 8 }},
			{"Ballot up to what is Safe, above the Disk's Promise", false, func(r *impl.Recorder) { r.Safe, r.Disk, r.Ballot = r.Disk, r.Safe, 8 }},
			{"a Promise of 0", false, func(r *impl.Recorder) { r.Disk = impl.RecDisk{} }},
			{"a Promise of 0, and Ballot 0", false, func(r *impl.Recorder) { r.Disk, r.Ballot = impl.RecDisk{}, 0 }},
			{"a Promise and a Ballot at their most", true, func(r *impl.Recorder) { r.Disk.Promise, r.Ballot = 1000000, 1000000 }},
			{"a Promise at its most, and a Ballot of one more", false, func(r *impl.Recorder) { r.Disk.Promise, r.Ballot = 1000000, 1000001 }},
			{"a Ballot of another's", true, func(r *impl.Recorder) { r.Ballot = 5 }},
		})
	}
}

// What belongs to a role, put to each other one.
func TestRecValidRoles(t *testing.T) {
	yes := func(r *impl.Recorder) { r.Yes = []int{2} }
	best := func(r *impl.Recorder) { r.Best = recSlots(recSlot(1, "a")) }
	emptyBest := func(r *impl.Recorder) { r.Best = recSlots(recSlot(0, "")) }
	acks := func(r *impl.Recorder) { r.Acks = []impl.RecAck{{Index: 1, From: []int{2}}} }
	emptyAcks := func(r *impl.Recorder) { r.Acks = []impl.RecAck{{Index: 1}} }
	both := func(r *impl.Recorder) { r.Lead, r.Trying = true, true }
	recCheckAll(t, "leading", recLeader, []recCase{
		{"Yes", false, yes}, {"Best", false, best}, {"Best of an empty slot", false, emptyBest}, {"Acks", true, acks}, {"Acks of nobody", true, emptyAcks},
		{"trying as well", false, both},
		{"trying as well, without Acks", false, func(r *impl.Recorder) { both(r); r.Acks = nil }},
		{"trying in place of it, with Acks", false, func(r *impl.Recorder) { r.Lead, r.Trying = false, true }},
		{"trying in place of it, without Acks", true, func(r *impl.Recorder) { r.Lead, r.Trying, r.Acks = false, true, nil }},
		{"quiet in place of it", false, func(r *impl.Recorder) { r.Lead = false }},
		{"quiet in place of it, without a Ballot", false, func(r *impl.Recorder) { r.Lead, r.Ballot = false, 0 }},
		{"quiet in place of it, without Acks", false, func(r *impl.Recorder) { r.Lead, r.Acks = false, nil }},
		{"quiet in place of it, without a Ballot and Acks", true, func(r *impl.Recorder) { r.Lead, r.Ballot, r.Acks = false, 0, nil }},
		{"without Acks", true, func(r *impl.Recorder) { r.Acks = nil }},
	})
	recCheckAll(t, "trying", recTrier, []recCase{
		{"Yes", true, yes}, {"Best", true, best}, {"Best of an empty slot", true, emptyBest}, {"Acks", false, acks}, {"Acks of nobody", false, emptyAcks},
		{"leading as well", false, both},
		{"leading as well, without Yes and Best", false, func(r *impl.Recorder) { both(r); r.Yes, r.Best = nil, nil }},
		{"leading in place of it, with Yes", false, func(r *impl.Recorder) { r.Lead, r.Trying, r.Best = true, false, nil }},
		{"leading in place of it, with Best", false, func(r *impl.Recorder) { r.Lead, r.Trying, r.Yes = true, false, nil }},
		{"leading in place of it, without Yes and Best", true, func(r *impl.Recorder) { r.Lead, r.Trying, r.Yes, r.Best = true, false, nil, nil }},
		{"quiet in place of it", false, func(r *impl.Recorder) { r.Trying = false }},
		{"quiet in place of it, with Yes", false, func(r *impl.Recorder) { r.Trying, r.Ballot, r.Best = false, 0, nil }},
		{"quiet in place of it, with Best", false, func(r *impl.Recorder) { r.Trying, r.Ballot, r.Yes = false, 0, nil }},
		{"quiet in place of it, without a Ballot, Yes and Best", true, func(r *impl.Recorder) { r.Trying, r.Ballot, r.Yes, r.Best = false, 0, nil, nil }},
		{"without Yes and Best", true, func(r *impl.Recorder) { r.Yes, r.Best = nil, nil }},
	})
	for sort, made := range map[string]func() impl.Recorder{"quiet": recAwake, "down": recDown} {
		recCheckAll(t, sort, made, []recCase{
			{"Yes", false, yes}, {"Best", false, best}, {"Best of an empty slot", false, emptyBest}, {"Acks", false, acks}, {"Acks of nobody", false, emptyAcks},
			{"a Ballot", false, func(r *impl.Recorder) { r.Ballot = 1 }},
			{"both leading and trying", false, both},
			{"both leading and trying, with a Ballot", false, func(r *impl.Recorder) { both(r); r.Ballot = 6 }},
		})
	}
}

func TestRecValidDown(t *testing.T) {
	recCheckAll(t, "down", recDown, []recCase{
		{"leading", false, func(r *impl.Recorder) { r.Lead, r.Ballot = true, 6 }},
		{"trying", false, func(r *impl.Recorder) { r.Trying, r.Ballot = true, 6 }},
		{"Held", false, func(r *impl.Recorder) { r.Held = recAwake().Held[:1] }},
		{"Wishes", false, func(r *impl.Recorder) { r.Wishes = []string{"e"} }},
		{"Heard", false, func(r *impl.Recorder) { r.Heard = 1 }},
		{"Heard below 0", false, func(r *impl.Recorder) { r.Heard = -1 }},
		{"all of these, and Up", true, func(r *impl.Recorder) {
			r.Up, r.Lead, r.Ballot, r.Held, r.Wishes, r.Heard = true, true, 6, recAwake().Held, []string{"e"}, 1
		}},
		{"Up", true, func(r *impl.Recorder) { r.Up = true }},
		{"nothing on its disks", true, func(r *impl.Recorder) { r.Safe, r.Disk = impl.RecDisk{}, impl.RecDisk{} }},
	})
	for sort, made := range recUp() {
		recCheckAll(t, sort, made, []recCase{
			{"not Up", false, func(r *impl.Recorder) { r.Up = false }},
			{"not Up, with nothing held, wished or heard", sort == "quiet", func(r *impl.Recorder) { r.Up, r.Held, r.Wishes, r.Heard = false, nil, nil, 0 }},
		})
	}
}
