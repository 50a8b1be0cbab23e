package tests

import (
	"math"
	"slices"
	"testing"

	"loop.example/wharfdesk/impl"
)

func recIn(least, most int, numbers ...int) bool {
	return all(numbers, func(n int) bool { return n >= least && n <= most })
}

// recRises says whether numbers are ascending: each is above all that stand ahead of it.
func recRises(list []int) bool {
	for i, n := range list {
		if !all(list[:i], func(earlier int) bool { return earlier < n }) {
			return false
		}
	}
	return true
}

// recSlotsAreOk is the document's sentence on slots.
func recSlotsAreOk(list []impl.RecSlot) bool {
	return len(list) <= 120 && all(list, func(s impl.RecSlot) bool {
		return recIn(0, 1000000, s.Ballot) && len(s.Text) <= 160 && (s.Ballot != 0 || s.Text == "")
	})
}

// recDiskIsOk is the one on disks.
func recDiskIsOk(d impl.RecDisk) bool {
	if !recIn(0, 1000000, d.Promise) || !recSlotsAreOk(d.Slots) || !recIn(0, len(d.Slots), d.Known) {
		return false
	}
	for place, s := range d.Slots {
		if s.Ballot > d.Promise || place < d.Known && s.Ballot <= 0 {
			return false
		}
	}
	return true
}

// recMessageIsOk is the one on messages.
func recMessageIsOk(m impl.RecMessage, of int) bool {
	kinds := []int{impl.RecPrepare, impl.RecPromised, impl.RecAccept, impl.RecAccepted, impl.RecBeat, impl.RecChosen, impl.RecNeed, impl.RecWished, impl.RecRefuse}
	return slices.Contains(kinds, m.Kind) && recIn(1, of, m.From, m.To) && recIn(0, 1000000, m.Ballot) && recIn(0, 120, m.Index, m.Known) && len(m.Text) <= 160 && recSlotsAreOk(m.Slots)
}

// recPartsAreOk is what is asked of a valid recorder whatever it does.
func recPartsAreOk(r impl.Recorder) bool {
	held := func(m impl.RecMessage) bool { return recMessageIsOk(m, r.Of) && m.From == r.Number }
	wished := map[string]int{}
	for _, text := range r.Wishes {
		wished[text]++
	}
	var indices []int
	numbers := slices.Clone(r.Yes)
	rising := recRises(r.Yes)
	for _, ack := range r.Acks {
		indices = append(indices, ack.Index)
		numbers = append(numbers, ack.From...)
		rising = rising && recRises(ack.From)
	}
	return recIn(1, 5, r.Of) && recIn(1, r.Of, r.Number) && recDiskIsOk(r.Safe) && recDiskIsOk(r.Disk) &&
		len(r.Held) <= 400 && all(r.Held, held) &&
		len(r.Wishes) <= 20 && len(wished) == len(r.Wishes) && all(r.Wishes, func(text string) bool { return recIn(1, 160, len(text)) }) &&
		recIn(0, 1000000, r.Heard) &&
		rising && recIn(1, r.Of, numbers...) && recSlotsAreOk(r.Best) && recRises(indices) && recIn(1, 120, indices...)
}

// recIsValid is the document's long sentence.
func recIsValid(r impl.Recorder) bool {
	quiet := !r.Lead && !r.Trying
	switch {
	case !recPartsAreOk(r) || r.Lead && r.Trying:
		return false
	case !quiet && !recIn(1, r.Disk.Promise, r.Ballot):
		return false
	case r.Trying && len(r.Acks) > 0:
		return false
	case r.Lead && len(r.Yes)+len(r.Best) > 0:
		return false
	case quiet && (r.Ballot != 0 || len(r.Yes)+len(r.Best)+len(r.Acks) > 0):
		return false
	}
	return r.Up || quiet && len(r.Held) == 0 && len(r.Wishes) == 0 && r.Heard == 0
}

// recOkDisk is ok.
func (d *dice) recOkDisk() impl.RecDisk {
	disk := impl.RecDisk{Promise: d.roll(9)}
	disk.Slots = d.recOkSlots(d.roll(6), disk.Promise)
	for disk.Known < len(disk.Slots) && disk.Slots[disk.Known].Ballot > 0 && d.roll(3) > 0 {
		disk.Known++
	}
	return disk
}

// recOkMessage is ok.
func (d *dice) recOkMessage(from, of int) impl.RecMessage {
	return impl.RecMessage{Kind: 1 + d.roll(9), From: from, To: 1 + d.roll(of), Ballot: d.roll(9), Index: d.roll(9), Known: d.roll(9), Text: d.recText(), Slots: d.recOkSlots(d.roll(4), 5)}
}

// recSomeOf are numbers from 1 up, ascending.
func (d *dice) recSomeOf(of int) []int {
	var list []int
	for n := 1; n <= of; n++ {
		if d.roll(2) == 0 {
			list = append(list, n)
		}
	}
	return list
}

// recDoes puts a recorder into a role; it is Up, and its Promise above 0.
func (d *dice) recDoes(r *impl.Recorder, leads bool) {
	r.Lead, r.Trying, r.Ballot = leads, !leads, 1+d.roll(r.Disk.Promise)
	if r.Trying {
		r.Yes, r.Best = d.recSomeOf(r.Of), d.recOkSlots(d.roll(5), 9)
		return
	}
	for _, index := range d.recSomeOf(8) {
		r.Acks = append(r.Acks, impl.RecAck{Index: index, From: d.recSomeOf(r.Of)})
	}
}

// recorder is valid.
func (d *dice) recorder() impl.Recorder {
	of := 1 + d.roll(5)
	return d.recorderOf(1+d.roll(of), of)
}

// recorderOf is the one of a Number, and valid.
func (d *dice) recorderOf(number, of int) impl.Recorder {
	r := impl.Recorder{Number: number, Of: of, Up: d.roll(4) > 0, Safe: d.recOkDisk(), Disk: d.recOkDisk()}
	if !r.Up {
		return r
	}
	for range d.roll(4) {
		r.Held = append(r.Held, d.recOkMessage(r.Number, of))
	}
	for _, text := range []string{"b", "a", "ab", letters(160)} {
		if d.roll(2) == 0 {
			r.Wishes = append(r.Wishes, text)
		}
	}
	r.Heard = d.roll(20)
	if role := d.roll(3); role > 0 && r.Disk.Promise > 0 {
		d.recDoes(&r, role == 1)
	}
	return r
}

// recAnyNumber is at an edge, most of the time.
func (d *dice) recAnyNumber() int {
	return pick(d, -1, 0, 0, 1, 2, 3, 4, 5, 6, 7, 8, 9, 119, 120, 121, 1000000, 1000001, math.MinInt, math.MaxInt)
}

func (d *dice) recSpoilDisk(disk *impl.RecDisk) {
	switch d.roll(6) {
	case 0:
		disk.Promise = d.recAnyNumber()
	case 1, 2:
		disk.Known = d.recAnyNumber()
	case 3:
		disk.Slots = recSome(pick(d, 119, 120, 121), recSlot(d.roll(3), ""))
	default:
		d.recSpoilSlots(disk.Slots)
	}
}

func (d *dice) recSpoilSlots(list []impl.RecSlot) {
	if len(list) > 0 {
		list[d.roll(len(list))] = d.recAnySlots(1)[0]
	}
}

func (d *dice) recSpoilMessage(m *impl.RecMessage) {
	switch d.roll(4) {
	case 0:
		m.Text = pick(d, "", letters(160), letters(161))
	case 1:
		d.recSpoilSlots(m.Slots)
	default:
		*pick(d, &m.Kind, &m.From, &m.To, &m.Ballot, &m.Index, &m.Known) = d.recAnyNumber()
	}
}

func (d *dice) recSpoilLists(r *impl.Recorder) {
	switch d.roll(7) {
	case 0:
		r.Wishes = append(r.Wishes, pick(d, "", "a", "b", "c", letters(161)))
	case 1:
		swapTwo(d, r.Yes)
	case 2:
		swapTwo(d, r.Acks)
	case 3:
		r.Yes = append(r.Yes, pick(d, 0, 1, 2, 3, 4, 5, 6))
	case 4:
		r.Acks = append(r.Acks, impl.RecAck{Index: pick(d, 0, 1, 8, 9, 120, 121), From: d.recSomeOf(5)})
	case 5:
		r.Held = slices.Repeat([]impl.RecMessage{d.recOkMessage(r.Number, max(1, r.Of))}, pick(d, 399, 400, 401))
	default:
		r.Best = d.recOkSlots(d.roll(3), 9)
	}
}

// recSpoil changes one thing of a recorder, which may still be valid then.
func (d *dice) recSpoil(r *impl.Recorder) {
	switch d.roll(12) {
	case 0:
		r.Up = !r.Up
	case 1:
		r.Lead = !r.Lead
	case 2:
		r.Trying = !r.Trying
	case 3:
		r.Lead, r.Trying = r.Trying, r.Lead
	case 4, 5:
		*pick(d, &r.Number, &r.Of, &r.Ballot, &r.Heard) = pick(d, d.recAnyNumber(), 1+d.roll(5))
	case 6:
		d.recSpoilDisk(pick(d, &r.Safe, &r.Disk))
	case 7:
		if len(r.Held) > 0 {
			d.recSpoilMessage(&r.Held[d.roll(len(r.Held))])
		}
	case 8:
		d.recSpoilSlots(r.Best)
	default:
		d.recSpoilLists(r)
	}
}

func TestRecValidMadeUp(t *testing.T) {
	t.Parallel()
	d := dice(2201)
	counts := map[bool]int{}
	for i := range 60000 {
		r := d.recorder()
		if !impl.RecValid(r) || !recIsValid(r) {
			t.Fatalf("recorder %d is not valid: %+v", i, r)
		}
		for range d.roll(3) {
			d.recSpoil(&r)
		}
		want := recIsValid(r)
		counts[want]++
		if got := impl.RecValid(r); got != want {
			t.Fatalf("recorder %d: %v: %+v", i, got, r)
		}
		for _, disk := range []impl.RecDisk{r.Safe, r.Disk} {
			if got := impl.RecDiskOk(disk); got != recDiskIsOk(disk) {
				t.Fatalf("recorder %d: %v: %+v", i, got, disk)
			}
		}
		for _, m := range r.Held {
			if got := impl.RecMessageOk(m, r.Of); got != recMessageIsOk(m, r.Of) {
				t.Fatalf("recorder %d: %v of %d: %+v", i, got, r.Of, m)
			}
		}
	}
	if counts[true] < 20000 || counts[false] < 15000 {
		t.Errorf("%v: too few of one", counts)
	}
}

func TestRecDiskAndMessageMadeUp(t *testing.T) {
	t.Parallel()
	d := dice(2202)
	disks, messages := map[bool]int{}, map[bool]int{}
	for i := range 60000 {
		disk, of := d.recOkDisk(), 1+d.roll(5)
		m := d.recOkMessage(1+d.roll(of), of)
		if !impl.RecDiskOk(disk) || !impl.RecMessageOk(m, of) {
			t.Fatalf("%d: not ok: %+v or %+v of %d", i, disk, m, of)
		}
		for range d.roll(3) {
			d.recSpoilDisk(&disk)
			d.recSpoilMessage(&m)
		}
		if d.roll(4) == 0 {
			of = pick(&d, d.recAnyNumber(), d.roll(7))
		}
		disks[recDiskIsOk(disk)]++
		messages[recMessageIsOk(m, of)]++
		if got := impl.RecDiskOk(disk); got != recDiskIsOk(disk) {
			t.Fatalf("%d: %v: %+v", i, got, disk)
		}
		if got := impl.RecMessageOk(m, of); got != recMessageIsOk(m, of) {
			t.Fatalf("%d: %v of %d: %+v", i, got, of, m)
		}
	}
	for _, counts := range []map[bool]int{disks, messages} {
		if counts[true] < 15000 || counts[false] < 15000 {
			t.Errorf("%v: too few of one", counts)
		}
	}
}
