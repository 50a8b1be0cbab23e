package tests

import (
	"fmt"
	"slices"
	"testing"

	"loop.example/wharfdesk/impl"
)

type recTurn = func(*impl.Recorder)

// recMakes says what is made of a recorder: itself, turned as told, in new memory, nothing that was handed in being changed.
func recMakes(t *testing.T, what string, r impl.Recorder, m impl.RecMessage, does func(impl.Recorder, impl.RecMessage) impl.Recorder, turns []recTurn) impl.Recorder {
	t.Helper()
	r, m = spread(r), spread(m)
	rBefore, mBefore, want := whole(r), whole(m), spread(r)
	for _, turn := range turns {
		turn(&want)
	}
	got := does(r, m)
	if !same(got, want) {
		t.Errorf("%s:\n%+v, not\n%+v", what, got, want)
	}
	if !impl.RecValid(got) || !recIsValid(got) {
		t.Errorf("%s: not valid: %+v", what, got)
	}
	newMemory(t, what, got, r, m)
	if !same(whole(r), rBefore) || !same(whole(m), mBefore) {
		t.Errorf("%s: an argument was changed", what)
	}
	return got
}

func recTakes(t *testing.T, what string, r impl.Recorder, m impl.RecMessage, turns ...recTurn) impl.Recorder {
	t.Helper()
	return recMakes(t, what, r, m, impl.RecTake, turns)
}

// recHolds puts messages behind Held, as far as there is room, as from this recorder.
func recHolds(list ...impl.RecMessage) recTurn {
	return func(r *impl.Recorder) {
		for _, m := range list {
			m.From = r.Number
			r.Held = append(r.Held, m)
		}
		r.Held = r.Held[:min(400, len(r.Held))]
	}
}

func recRefuses(to int) recTurn {
	return func(r *impl.Recorder) {
		recHolds(impl.RecMessage{Kind: impl.RecRefuse, To: to, Ballot: r.Disk.Promise})(r)
	}
}

func recIsQuiet(r *impl.Recorder) {
	r.Lead, r.Trying, r.Ballot, r.Yes, r.Best, r.Acks = false, false, 0, nil, nil, nil
}

func recPromises(ballot int) recTurn {
	return func(r *impl.Recorder) { r.Disk.Promise = ballot }
}

func recKnows(known int) recTurn {
	return func(r *impl.Recorder) { r.Disk.Known = known }
}

func recHasHeard(r *impl.Recorder) {
	r.Heard = 0
}

func recHasSlots(list ...impl.RecSlot) recTurn {
	return func(r *impl.Recorder) { r.Disk.Slots = list }
}

// recFollows is what becomes of one who hears of a ballot that is not its own.
func recFollows(ballot int) recTurn {
	return func(r *impl.Recorder) {
		recPromises(ballot)(r)
		recIsQuiet(r)
		recHasHeard(r)
	}
}

// recWith is a recorder, turned.
func recWith(r impl.Recorder, turns ...recTurn) impl.Recorder {
	for _, turn := range turns {
		turn(&r)
	}
	return r
}

// recFullTo has so many messages held.
func recFullTo(n int) recTurn {
	return func(r *impl.Recorder) {
		r.Held = slices.Repeat([]impl.RecMessage{{Kind: impl.RecWished, From: r.Number, To: 1, Text: "x"}}, n)
	}
}

// recEachKind are messages from 1 to 2, ok for 4, that would change something with each one that is Up.
func recEachKind() []impl.RecMessage {
	var list []impl.RecMessage
	for kind := 1; kind <= 9; kind++ {
		list = append(list, impl.RecMessage{Kind: kind, From: 1, To: 2, Ballot: 9, Index: 3, Known: 3, Text: "g", Slots: recSlots(recSlot(1, "a"))})
	}
	return list
}

// recSpoilt are turns that leave none of recRoles valid.
func recSpoilt() map[string]recTurn {
	return map[string]recTurn{
		"Number 0":               func(r *impl.Recorder) { r.Number = 0 },
		"Of 6":                   func(r *impl.Recorder) { r.Of = 6 },
		"Of below Number":        func(r *impl.Recorder) { r.Of = 1 },
		"Known below 0":          func(r *impl.Recorder) { r.Disk.Known = -1 },
		"Known too high":         func(r *impl.Recorder) { r.Disk.Known = 5 },
		"Safe Known too high":    func(r *impl.Recorder) { r.Safe.Known = 5 },
		"a Promise too high":     func(r *impl.Recorder) { r.Disk.Promise = 1000001 },
		"121 slots":              func(r *impl.Recorder) { r.Disk.Slots = recSome(121, recSlot(1, "a")) },
		"401 held":               recFullTo(401),
		"held from another":      func(r *impl.Recorder) { r.Held = []impl.RecMessage{{Kind: 1, From: 1, To: 2}} },
		"an empty wish":          func(r *impl.Recorder) { r.Wishes = []string{""} },
		"Heard below 0":          func(r *impl.Recorder) { r.Heard = -1 },
		"leading and trying":     func(r *impl.Recorder) { r.Lead, r.Trying = true, true },
		"Yes that is too high":   func(r *impl.Recorder) { r.Yes = []int{5} },
		"Best with 121 slots":    func(r *impl.Recorder) { r.Best = recSome(121, recSlot(1, "a")) },
		"an ack of Index 0":      func(r *impl.Recorder) { r.Acks = []impl.RecAck{{Index: 0}} },
		"a Ballot above Promise": func(r *impl.Recorder) { r.Ballot = 9 },
	}
}

func TestRecTakeOfOneThatIsNotValid(t *testing.T) {
	for sort, made := range recRoles() {
		for what, spoil := range recSpoilt() {
			r := recWith(made(), spoil)
			for _, m := range append(recEachKind(), impl.RecMessage{}, impl.RecMessage{Kind: 1, From: 1, To: 3, Ballot: 9}) {
				if got := impl.RecTake(r, m); !same(got, impl.Recorder{}) {
					t.Errorf("%s, %s, Kind %d: %+v", sort, what, m.Kind, got)
				}
			}
			if got := impl.RecWish(r, "g"); !same(got, impl.Recorder{}) {
				t.Errorf("%s, %s, a wish: %+v", sort, what, got)
			}
		}
	}
	for _, m := range recEachKind() {
		if got := impl.RecTake(impl.Recorder{}, m); !same(got, impl.Recorder{}) {
			t.Errorf("nothing, Kind %d: %+v", m.Kind, got)
		}
	}
}

func TestRecTakeOfWhatIsNotForIt(t *testing.T) {
	turned := map[string]recMessageTurn{
		"no Kind":                func(m *impl.RecMessage) { m.Kind = 0 },
		"Kind 10":                func(m *impl.RecMessage) { m.Kind = 10 },
		"Kind below 0":           func(m *impl.RecMessage) { m.Kind = -1 },
		"From nobody":            func(m *impl.RecMessage) { m.From = 0 },
		"From one more":          func(m *impl.RecMessage) { m.From = 5 },
		"To nobody":              func(m *impl.RecMessage) { m.To = 0 },
		"To one more":            func(m *impl.RecMessage) { m.To = 5 },
		"To the one ahead":       func(m *impl.RecMessage) { m.To = 1 },
		"To the one behind":      func(m *impl.RecMessage) { m.To = 3 },
		"a Ballot below 0":       func(m *impl.RecMessage) { m.Ballot = -1 },
		"a Ballot too high":      func(m *impl.RecMessage) { m.Ballot = 1000001 },
		"an Index below 0":       func(m *impl.RecMessage) { m.Index = -1 },
		"an Index of 121":        func(m *impl.RecMessage) { m.Index = 121 },
		"a Known below 0":        func(m *impl.RecMessage) { m.Known = -1 },
		"a Known of 121":         func(m *impl.RecMessage) { m.Known = 121 },
		"a Text of 161 bytes":    func(m *impl.RecMessage) { m.Text = letters(161) },
		"121 slots":              func(m *impl.RecMessage) { m.Slots = recSome(121, recSlot(1, "a")) },
		"a slot that is not ok":  func(m *impl.RecMessage) { m.Slots = recSlots(recSlot(0, "x")) },
		"a slot's high Ballot":   func(m *impl.RecMessage) { m.Slots = recSlots(recSlot(1000001, "x")) },
		"nothing in the message": func(m *impl.RecMessage) { *m = impl.RecMessage{} },
	}
	for sort, made := range recRoles() {
		for what, turn := range turned {
			for _, m := range recEachKind() {
				turn(&m)
				recTakes(t, fmt.Sprintf("%s, %s, %d", sort, what, m.Kind), made(), m)
			}
		}
	}
	for _, m := range recEachKind() {
		recTakes(t, fmt.Sprint("not Up, Kind ", m.Kind), recDown(), m)
	}
}

// A Ballot below, equal to and above the Disk's Promise, which is 8; the Ballot of those who lead or try is 6.
func TestRecTakePrepare(t *testing.T) {
	for sort, made := range recUp() {
		for from := 1; from <= 4; from++ {
			for _, ballot := range []int{0, 1, 5, 6, 7, 8} {
				m := impl.RecMessage{Kind: impl.RecPrepare, From: from, To: 2, Ballot: ballot}
				recTakes(t, fmt.Sprintf("%s, from %d, Ballot %d", sort, from, ballot), made(), m, recRefuses(from))
			}
			for _, ballot := range []int{9, 10, 1000000} {
				m := impl.RecMessage{Kind: impl.RecPrepare, From: from, To: 2, Ballot: ballot}
				promised := impl.RecMessage{Kind: impl.RecPromised, To: from, Ballot: ballot, Slots: recAwake().Disk.Slots}
				recTakes(t, fmt.Sprintf("%s, from %d, Ballot %d", sort, from, ballot), made(), m, recFollows(ballot), recHolds(promised))
			}
		}
	}
}

func TestRecTakePrepareEdges(t *testing.T) {
	prepare := func(ballot int) impl.RecMessage {
		return impl.RecMessage{Kind: impl.RecPrepare, From: 1, To: 2, Ballot: ballot}
	}
	recTakes(t, "a new one, Ballot 0", impl.RecNew(2, 3), prepare(0), recRefuses(1))
	recTakes(t, "a new one, Ballot 1", impl.RecNew(2, 3), prepare(1), recFollows(1), recHolds(impl.RecMessage{Kind: impl.RecPromised, To: 1, Ballot: 1}))
	recTakes(t, "a Promise at its most", recWith(recLeader(), recPromises(1000000)), prepare(1000000), recRefuses(1))
	full := recSome(120, recSlot(8, letters(160)))
	recTakes(t, "120 slots", recWith(recAwake(), recHasSlots(full...)), prepare(9), recFollows(9), recHolds(impl.RecMessage{Kind: impl.RecPromised, To: 1, Ballot: 9, Slots: full}))
	// It is the Disk that counts, not what is Safe.
	safer := func(r *impl.Recorder) { r.Safe.Promise = 20 }
	recTakes(t, "Safe ahead", recWith(recAwake(), safer), prepare(9), recFollows(9), recHolds(impl.RecMessage{Kind: impl.RecPromised, To: 1, Ballot: 9, Slots: recAwake().Disk.Slots}))
	// What else stands in the message is of no use here.
	more := prepare(9)
	more.Index, more.Known, more.Text, more.Slots = 4, 4, "z", recSlots(recSlot(7, "y"))
	recTakes(t, "all else in the message", recAwake(), more, recFollows(9), recHolds(impl.RecMessage{Kind: impl.RecPromised, To: 1, Ballot: 9, Slots: recAwake().Disk.Slots}))
}

// What does not fit into Held is not held; all else is done.
func TestRecTakePrepareWithHeldFull(t *testing.T) {
	for _, n := range []int{398, 399, 400} {
		for sort, made := range recUp() {
			r := recWith(made(), recFullTo(n))
			what := fmt.Sprintf("%s, %d held", sort, n)
			refused := recTakes(t, what, r, impl.RecMessage{Kind: impl.RecPrepare, From: 1, To: 2, Ballot: 8}, recRefuses(1))
			promised := impl.RecMessage{Kind: impl.RecPromised, To: 1, Ballot: 9, Slots: r.Disk.Slots}
			followed := recTakes(t, what, r, impl.RecMessage{Kind: impl.RecPrepare, From: 1, To: 2, Ballot: 9}, recFollows(9), recHolds(promised))
			if want := min(400, n+1); len(refused.Held) != want || len(followed.Held) != want {
				t.Errorf("%s: then %d and %d", what, len(refused.Held), len(followed.Held))
			}
		}
	}
}

// The Ballot of those who lead or try is 6, the Disk's Promise 8.
func TestRecTakeRefuse(t *testing.T) {
	for _, from := range []int{1, 2, 4} {
		for _, ballot := range []int{0, 1, 5, 6, 7, 8, 9, 10, 1000000} {
			m := impl.RecMessage{Kind: impl.RecRefuse, From: from, To: 2, Ballot: ballot}
			what := fmt.Sprintf("from %d, Ballot %d", from, ballot)
			recTakes(t, "quiet, "+what, recAwake(), m)
			for sort, made := range map[string]func() impl.Recorder{"leading": recLeader, "trying": recTrier} {
				switch {
				case ballot <= 6:
					recTakes(t, sort+", "+what, made(), m)
				case ballot <= 8:
					recTakes(t, sort+", "+what, made(), m, recIsQuiet)
				default:
					recTakes(t, sort+", "+what, made(), m, recIsQuiet, recPromises(ballot))
				}
			}
		}
	}
	high := func(r *impl.Recorder) { r.Disk.Promise, r.Ballot = 1000000, 1000000 }
	recTakes(t, "a Ballot at its most", recWith(recLeader(), high), impl.RecMessage{Kind: impl.RecRefuse, From: 1, To: 2, Ballot: 1000000})
	recTakes(t, "Held full", recWith(recLeader(), recFullTo(400)), impl.RecMessage{Kind: impl.RecRefuse, From: 1, To: 2, Ballot: 9}, recIsQuiet, recPromises(9))
}
