package tests

import (
	"fmt"
	"math"
	"testing"

	"loop.example/wharfdesk/impl"
)

func TestRecNew(t *testing.T) {
	numbers := []int{math.MinInt, -5, -1, 0, 1, 2, 3, 4, 5, 6, 7, 100, math.MaxInt}
	made := 0
	for _, of := range numbers {
		for _, number := range numbers {
			want := impl.Recorder{}
			if of >= 1 && of <= 5 && number >= 1 && number <= of {
				want = impl.Recorder{Number: number, Of: of, Up: true}
				made++
			}
			got := impl.RecNew(number, of)
			if !same(got, want) {
				t.Errorf("%d of %d: %+v", number, of, got)
			}
			if impl.RecValid(got) != want.Up {
				t.Errorf("%d of %d: valid is %v", number, of, !want.Up)
			}
		}
	}
	if made != 1+2+3+4+5 {
		t.Errorf("%d were made", made)
	}
}

// recMessage is ok for 3, and has something in each field.
func recMessage() impl.RecMessage {
	return impl.RecMessage{Kind: impl.RecPromised, From: 2, To: 3, Ballot: 8, Index: 4, Known: 3, Text: "a", Slots: recSlots(recSlot(9, "b"), recSlot(0, ""), recSlot(1, ""))}
}

type recMessageTurn = func(*impl.RecMessage)

func recMessageTurned(turn recMessageTurn) impl.RecMessage {
	m := recMessage()
	turn(&m)
	return m
}

func recCheckMessage(t *testing.T, what string, m impl.RecMessage, of int, want bool) {
	t.Helper()
	m = spread(m)
	before := whole(m)
	if got := impl.RecMessageOk(m, of); got != want {
		t.Errorf("%s, of %d: %v", what, of, got)
	}
	if !same(whole(m), before) {
		t.Errorf("%s, of %d: the message was changed", what, of)
	}
}

func TestRecMessageOkKinds(t *testing.T) {
	kinds := []int{impl.RecPrepare, impl.RecPromised, impl.RecAccept, impl.RecAccepted, impl.RecBeat, impl.RecChosen, impl.RecNeed, impl.RecWished, impl.RecRefuse}
	for i, kind := range kinds {
		if kind != i+1 {
			t.Errorf("kind %d is %d", i+1, kind)
		}
		// Whatever a Kind has no use for may be there, or not.
		recCheckMessage(t, fmt.Sprintf("Kind %d", kind), recMessageTurned(func(m *impl.RecMessage) { m.Kind = kind }), 3, true)
		recCheckMessage(t, fmt.Sprintf("Kind %d with nothing else", kind), impl.RecMessage{Kind: kind, From: 1, To: 1}, 3, true)
	}
	for _, kind := range []int{0, 10, 11, -1, -9, 100, math.MinInt, math.MaxInt} {
		recCheckMessage(t, fmt.Sprintf("Kind %d", kind), recMessageTurned(func(m *impl.RecMessage) { m.Kind = kind }), 3, false)
	}
	recCheckMessage(t, "nothing", impl.RecMessage{}, 3, false)
}

// Each number of a message stands from its least to its most, all else being as in recMessage.
func TestRecMessageOkNumbers(t *testing.T) {
	for _, f := range []struct {
		what  string
		least int
		most  int
		put   func(*impl.RecMessage, int)
	}{
		{"From", 1, 3, func(m *impl.RecMessage, n int) { m.From = n }},
		{"To", 1, 3, func(m *impl.RecMessage, n int) { m.To = n }},
		{"From and To", 1, 3, func(m *impl.RecMessage, n int) { m.From, m.To = n, n }},
		{"Ballot", 0, 1000000, func(m *impl.RecMessage, n int) { m.Ballot = n }},
		{"Index", 0, 120, func(m *impl.RecMessage, n int) { m.Index = n }},
		{"Known", 0, 120, func(m *impl.RecMessage, n int) { m.Known = n }},
		{"a slot's Ballot", 0, 1000000, func(m *impl.RecMessage, n int) { m.Slots[2].Ballot = n }},
		{"a slot's Ballot, with a Text", 1, 1000000, func(m *impl.RecMessage, n int) { m.Slots[0].Ballot = n }},
	} {
		for _, n := range append(aroundEnds(f.least, f.most), 2, 3) {
			m := recMessageTurned(func(m *impl.RecMessage) { f.put(m, n) })
			recCheckMessage(t, fmt.Sprintf("%s %d", f.what, n), m, 3, f.least <= n && n <= f.most)
		}
	}
}

func TestRecMessageOkTexts(t *testing.T) {
	slots := func(list []impl.RecSlot) recMessageTurn {
		return func(m *impl.RecMessage) { m.Slots = list }
	}
	text := func(text string) recMessageTurn {
		return func(m *impl.RecMessage) { m.Text = text }
	}
	for _, c := range []struct {
		what string
		want bool
		turn recMessageTurn
	}{
		{"the message", true, func(*impl.RecMessage) {}},
		{"no Text", true, text("")},
		{"a Text of 160 bytes", true, text(letters(160))},
		{"a Text of 161 bytes", false, text(letters(161))},
		{"a Text of 161 bytes that are 160 letters", false, text("é" + letters(159))},
		{"a Text of 5000 bytes", false, text(letters(5000))},
		{"a Text of any bytes", true, text("\x00\xff\n\"é")},
		{"no Slots", true, slots(nil)},
		{"an empty list", true, slots(recSlots())},
		{"120 Slots", true, slots(recSome(120, recSlot(1, "a")))},
		{"121 Slots", false, slots(recSome(121, recSlot(1, "a")))},
		{"120 empty Slots", true, slots(recSome(120, recSlot(0, "")))},
		{"121 empty Slots", false, slots(recSome(121, recSlot(0, "")))},
		{"a slot's Text of 160 bytes", true, slots(recSlots(recSlot(1, letters(160))))},
		{"a slot's Text of 161 bytes", false, slots(recSlots(recSlot(1, letters(161))))},
		{"the last slot's Text of 161 bytes", false, slots(recSlots(recSlot(1, "a"), recSlot(2, letters(161))))},
		{"a slot of Ballot 0 with a Text", false, slots(recSlots(recSlot(0, "x")))},
		{"a slot of Ballot 0 with a Text, the last", false, slots(recSlots(recSlot(1, "a"), recSlot(0, "x")))},
		{"a slot with a Ballot above the message's", true, slots(recSlots(recSlot(1000000, "a")))},
		{"fewer Slots than Index and Known", true, func(m *impl.RecMessage) { m.Slots, m.Index, m.Known = nil, 120, 120 }},
		{"to itself", true, func(m *impl.RecMessage) { m.To = m.From }},
		{"all at its most", true, func(m *impl.RecMessage) {
			*m = impl.RecMessage{Kind: 9, From: 3, To: 3, Ballot: 1000000, Index: 120, Known: 120, Text: letters(160), Slots: recSome(120, recSlot(1000000, letters(160)))}
		}},
	} {
		recCheckMessage(t, c.what, recMessageTurned(c.turn), 3, c.want)
	}
}

// From and To go by of, whatever it is: how many recorders there may be is asked of recorders, not here.
func TestRecMessageOkOf(t *testing.T) {
	for _, of := range []int{math.MinInt, -3, -1, 0, 1, 2, 3, 4, 5, 6, 7, 1000, math.MaxInt} {
		ends := []int{math.MinInt, -1, 0, 1, 2, 5, 6, of, math.MaxInt}
		if of > math.MinInt {
			ends = append(ends, of-1)
		}
		if of < math.MaxInt {
			ends = append(ends, of+1)
		}
		for _, from := range ends {
			for _, to := range ends {
				m := recMessageTurned(func(m *impl.RecMessage) { m.From, m.To = from, to })
				recCheckMessage(t, fmt.Sprintf("from %d to %d", from, to), m, of, from >= 1 && from <= of && to >= 1 && to <= of)
			}
		}
	}
}
