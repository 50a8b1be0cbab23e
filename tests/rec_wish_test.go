package tests

import (
	"fmt"
	"testing"

	"loop.example/wharfdesk/impl"
)

// recWished checks both ways in which a text may come to be a wish: handed in, and told by another one.
func recWished(t *testing.T, what string, r impl.Recorder, text string, turns ...recTurn) {
	t.Helper()
	wish := func(r impl.Recorder, m impl.RecMessage) impl.Recorder { return impl.RecWish(r, m.Text) }
	for _, from := range []int{1, 2} {
		m := impl.RecMessage{Kind: impl.RecWished, From: from, To: 2, Ballot: 1, Index: 3, Known: 4, Text: text, Slots: recSlots(recSlot(9, "z"))}
		recMakes(t, fmt.Sprintf("%s, told by %d", what, from), r, m, impl.RecTake, turns)
	}
	recMakes(t, what+", handed in", r, impl.RecMessage{Text: text}, wish, turns)
}

func recWishes(list ...string) recTurn {
	return func(r *impl.Recorder) { r.Wishes = list }
}

func recManyWishes(n int) []string {
	var list []string
	for i := range n {
		list = append(list, fmt.Sprint("wish ", n-i))
	}
	return list
}

// recAwake has the Wishes e, d and f, of which d is in a slot that is not known; a and b are.
func TestRecWish(t *testing.T) {
	behind := func(text string) recTurn { return recWishes("e", "d", "f", text) }
	for sort, made := range recUp() {
		for _, text := range []string{"g", "c", "\x00", "\xff", "ab", "A", " ", "e ", "ef", letters(159), letters(160), "é" + letters(158)} {
			recWished(t, fmt.Sprintf("%s, %.5q of %d bytes", sort, text, len(text)), made(), text, behind(text))
		}
		for what, text := range map[string]string{
			"no text": "", "161 bytes": letters(161), "161 bytes that are 160 letters": "é" + letters(159), "5000 bytes": letters(5000),
			"the first of Wishes": "e", "among Wishes": "d", "the last of Wishes": "f", "the first that is known": "a", "the last that is known": "b",
		} {
			recWished(t, sort+", "+what, made(), text)
		}
	}
}

// It is what the Disk knows that counts, not what it has behind that, or what is Safe.
func TestRecWishOfWhatIsKnown(t *testing.T) {
	r := recWith(recAwake(), recWishes("w"), recHasSlots(recSlot(1, "a"), recSlot(8, "b"), recSlot(8, "c"), recSlot(0, ""), recSlot(8, "d")))
	r.Safe = impl.RecDisk{Promise: 9, Known: 2, Slots: recSlots(recSlot(9, "s"), recSlot(9, "c"))}
	for known, texts := range [][]string{0: {"a", "b", "c", "d", "s"}, 1: {"b", "c", "d", "s"}, 2: {"c", "d", "s"}, 3: {"d", "s"}} {
		for _, text := range texts {
			recWished(t, fmt.Sprintf("%q with %d known", text, known), recWith(r, recKnows(known)), text, recWishes("w", text))
		}
		for _, text := range []string{"a", "b", "c"}[:known] {
			recWished(t, fmt.Sprintf("%q with %d known", text, known), recWith(r, recKnows(known)), text)
		}
	}
	all := recWith(recAwake(), recWishes(), recHasSlots(recNumbered(120, "p", func(int) int { return 8 })...), recKnows(120))
	recWished(t, "the first of 120", all, "p0")
	recWished(t, "the last of 120", all, "p119")
	recWished(t, "none of 120", all, "p120", recWishes("p120"))
	recWished(t, "a beginning of one of 120", all, "p", recWishes("p"))
}

func TestRecWishWithWishesFull(t *testing.T) {
	for sort, made := range recUp() {
		for _, n := range []int{0, 1, 18, 19} {
			list := recManyWishes(n)
			recWished(t, fmt.Sprintf("%s, %d Wishes", sort, n), recWith(made(), recWishes(list...)), "g", recWishes(append(list, "g")...))
		}
		full := recWith(made(), recWishes(recManyWishes(20)...))
		recWished(t, sort+", 20 Wishes", full, "g")
		recWished(t, sort+", 20 Wishes and one of them", full, "wish 7")
		recWished(t, sort+", 20 Wishes and no text", full, "")
		// Held has nothing to do with it.
		recWished(t, sort+", Held full", recWith(made(), recFullTo(400)), "g", recWishes("e", "d", "f", "g"))
	}
}

func TestRecWishOfOneThatIsNotUp(t *testing.T) {
	for _, text := range []string{"g", "", "a", letters(160), letters(161)} {
		recWished(t, fmt.Sprintf("%.5q", text), recDown(), text)
	}
	recWished(t, "with nothing on its disks", impl.Recorder{Number: 2, Of: 3}, "g")
	recWished(t, "a new one", impl.RecNew(2, 3), "g", recWishes("g"))
	if got := impl.RecWish(impl.Recorder{}, "g"); !same(got, impl.Recorder{}) {
		t.Errorf("nothing: %+v", got)
	}
	if got := impl.RecWish(impl.RecNew(1, 1), "g"); !same(got, impl.Recorder{Number: 1, Of: 1, Up: true, Wishes: []string{"g"}}) {
		t.Errorf("one alone: %+v", got)
	}
}

func TestRecBook(t *testing.T) {
	slots := recSlots(recSlot(1, "a"), recSlot(8, ""), recSlot(8, "a"), recSlot(8, "d"), recSlot(0, ""), recSlot(8, "f"))
	for sort, made := range recRoles() {
		for known, want := range [][]string{{}, {"a"}, {"a", ""}, {"a", "", "a"}, {"a", "", "a", "d"}} {
			r := spread(recWith(made(), recPromises(8), recHasSlots(slots...), recKnows(known)))
			before := whole(r)
			got := impl.RecBook(r)
			if !sameTexts(got, want) {
				t.Errorf("%s, %d known: %q", sort, known, got)
			}
			newMemory(t, sort, got, r)
			if !same(whole(r), before) {
				t.Errorf("%s, %d known: the recorder was changed", sort, known)
			}
		}
		for _, known := range []int{-1, 5, 6, 7} {
			if got := impl.RecBook(recWith(made(), recPromises(8), recHasSlots(slots...), recKnows(known))); len(got) != 0 {
				t.Errorf("%s, %d known: %q", sort, known, got)
			}
		}
		if got := impl.RecBook(recWith(made(), func(r *impl.Recorder) { r.Number = 5 })); len(got) != 0 {
			t.Errorf("%s, not valid: %q", sort, got)
		}
	}
	all := recWith(recAwake(), recHasSlots(recSome(120, recSlot(8, "k"))...), recKnows(120))
	if got := impl.RecBook(all); len(got) != 120 || got[119] != "k" {
		t.Errorf("120 known: %q", got)
	}
	if got := impl.RecBook(impl.Recorder{}); len(got) != 0 {
		t.Errorf("nothing: %q", got)
	}
}
