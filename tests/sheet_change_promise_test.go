package tests

import (
	"slices"
	"testing"

	"loop.example/wharfdesk/impl"
)

// Promise 53 over all pairs of small sheets of one kind, and a share of those of two.
func TestSheetPromise53AllSmall(t *testing.T) {
	t.Parallel()
	for _, few := range [][]sheet{fewTeams(), fewBerths()} {
		for _, a := range few {
			for _, b := range few {
				checkDiff(t, "two small sheets", a, b)
			}
		}
	}
	both := fewBoth()
	for i, a := range both {
		for j := i % 3; j < len(both); j += 3 {
			checkDiff(t, "two small sheets", a, both[j])
		}
	}
}

// Promise 53 over sheets that are made up, and others that are like them.
func TestSheetPromise53MadeUp(t *testing.T) {
	t.Parallel()
	d := dice(53)
	count := map[int]int{}
	for n := range 2000 {
		most := pick(&d, 0, 1, 2, 3, 5, 8)
		a := d.sheetSaying(most)
		if n%50 == 0 {
			a = d.greatSheet()
		}
		b := d.sheetLike(a, most)
		if n%9 == 0 {
			b = pick(&d, impl.SheetFill(a), impl.SheetTrim(a), impl.SheetOver(a, b), sheet{})
		}
		for _, c := range append(checkDiff(t, "made up", a, b), checkDiff(t, "made up, the other way round", b, a)...) {
			count[c.What]++
		}
		if same(a, b) {
			count[0]++
		}
	}
	for what := range 5 {
		if count[what] < 100 {
			t.Errorf("of each What: %v", count)
		}
	}
}

// Of sheets that are spoilt there are differences only as long as both are valid.
func TestSheetDiffOfSpoilt(t *testing.T) {
	t.Parallel()
	d := dice(5353)
	count := map[bool]int{}
	for range 2000 {
		a, b := d.spoiltSheet(), d.sheetSaying(3)
		valid := sheetValidAsRead(a)
		if got := append(checkDiff(t, "a spoilt one", a, b), checkDiff(t, "a spoilt one", b, a)...); len(got) != 0 && !valid {
			t.Errorf("%.600q and %.600q: %s", a, b, shown(got))
		}
		checkApply(t, "a spoilt one", a, impl.SheetDiff(sheet{}, b))
		count[valid]++
	}
	if count[true] < 200 || count[false] < 200 {
		t.Errorf("sheets that are valid, or not: %v", count)
	}
}

// Promise 54 over all rows of up to three changes of those that matter to two berths.
func TestSheetPromise54AllShortRows(t *testing.T) {
	t.Parallel()
	l, m, one, two := said("mark", "l"), said("mark", "m"), said("room", "1"), said("room", "2")
	changes := []sheetChange{
		goneBlock("berth a"), goneBlock("berth b"), newBlock("berth a"), newBlock("berth b", one), newBlock("berth a", one, l, m), newBlock("berth a", m, l), newBlock("berth a", l, one),
		setLines("berth a", "mark", l), setLines("berth a", "mark", m, l), setLines("berth a", "mark", l, l), setLines("berth a", "mark", l, one), setLines("berth a", "room", two), setLines("berth b", "room", one, two),
		unsetLines("berth a", "mark"), unsetLines("berth a", "room"), unsetLines("berth b", "room"), setLines("berth a", "mark"), {},
	}
	count := map[int]int{}
	var grow func(s sheet, list []sheetChange)
	grow = func(s sheet, list []sheetChange) {
		_, code := checkApply(t, "a short row", s, list)
		count[code]++
		if len(list) == 3 || code != 0 {
			return
		}
		for _, c := range changes {
			grow(s, append(slices.Clone(list), c))
		}
	}
	for _, s := range []sheet{{}, sheetOf(blockOf("berth", "a")), sheetOf(blockOf("berth", "b", one)), sheetOf(blockOf("berth", "a", one, l, m), blockOf("berth", "b"))} {
		grow(s, nil)
	}
	for _, code := range []int{0, 2, 3, 4} {
		if count[code] < 20 {
			t.Errorf("codes: %v", count)
		}
	}
}

// changeFor is a change that is likely to be made to a sheet.
func (d *dice) changeFor(s sheet) sheetChange {
	kind, name := pick(d, sheetKinds()...), pick(d, "a", "b", "web", "x")
	var old sheetBlock
	if len(s.Blocks) > 0 && d.roll(5) != 0 {
		old = pick(d, s.Blocks...)
		kind, name = old.Kind, old.Name
	}
	head := kind + " " + name
	rule := pick(d, sheetTable()[kind]...)
	switch d.roll(7) {
	case 0:
		return goneBlock(head)
	case 1, 2:
		b := d.sheetBlockOf(kind, pick(d, name, "new", d.sheetWordOf(3)))
		return newBlock(b.Kind+" "+b.Name, sheetInOrder([]sheetBlock{b}).Blocks[0].Lines...)
	case 3:
		if len(old.Lines) > 0 {
			return unsetLines(head, pick(d, old.Lines...).Key)
		}
	}
	lines := []sheetLine{d.sheetLineOf(rule)}
	for rule.Many && d.roll(3) != 0 {
		lines = append(lines, d.sheetLineOf(rule))
	}
	return setLines(head, rule.Key, lines...)
}

// spoilChange changes something in a change; it may be right all the same.
func (d *dice) spoilChange(c *sheetChange) {
	rule := pick(d, sheetTable()[pick(d, sheetKinds()...)]...)
	switch d.roll(9) {
	case 0:
		c.What = pick(d, -1, 0, 1, 2, 3, 4, 5)
	case 1:
		c.Kind = pick(d, append(sheetKinds(), "zone", "")...)
	case 2:
		c.Name = pick(d, "a", "q", "", "A", d.sheetWordOf(3))
	case 3:
		c.Key = pick(d, "", "room", "mark", "zip", rule.Key)
	case 4:
		c.Lines = nil
	case 5:
		c.Lines = append(c.Lines, d.sheetLineOf(rule))
	case 6:
		slices.Reverse(c.Lines)
	default:
		if len(c.Lines) > 0 {
			b := sheetBlock{Kind: c.Kind, Name: c.Name, Lines: c.Lines}
			d.spoilBlock(&b)
			c.Lines = b.Lines
		}
	}
}

// Promise 54 over changes that are made up, some of which are spoilt.
func TestSheetPromise54MadeUp(t *testing.T) {
	t.Parallel()
	d := dice(54)
	count := map[int]int{}
	for range 5000 {
		s := d.sheetSaying(pick(&d, 1, 2, 3, 5))
		var list []sheetChange
		for now := s; len(list) < 8 && d.roll(6) != 0; {
			c := d.changeFor(now)
			if d.roll(12) == 0 {
				d.spoilChange(&c)
			}
			list = append(list, c)
			if next, can := sheetChangeAsRead(now, c); can {
				now = next
			}
		}
		_, code := checkApply(t, "made up", s, list)
		count[min(code, 5)]++
		if code == 0 {
			count[-len(list)]++
		}
	}
	for _, code := range []int{0, 2, 3, 4, 5, -1, -2, -3, -5} {
		if count[code] < 40 {
			t.Errorf("codes: %v", count)
		}
	}
}

// The differences of two sheets, turned around, spoilt, or made to another one: what is made is valid, or nothing is.
func TestSheetPromise54Differences(t *testing.T) {
	t.Parallel()
	d := dice(5453)
	count := map[bool]int{}
	for range 3000 {
		a := d.sheetSaying(pick(&d, 1, 2, 3, 5))
		b := d.sheetLike(a, 3)
		list := impl.SheetDiff(a, b)
		if len(list) == 0 {
			continue
		}
		switch d.roll(4) {
		case 0:
			var turned []sheetChange
			for _, at := range d.order(len(list)) {
				turned = append(turned, list[at])
			}
			list = turned
		case 1:
			d.spoilChange(&list[d.roll(len(list))])
		case 2:
			a = d.sheetLike(a, 1)
		default:
			list = append(list, list[d.roll(len(list))])
		}
		_, code := checkApply(t, "differences", a, list)
		count[code == 0]++
	}
	if count[true] < 400 || count[false] < 400 {
		t.Errorf("changes that are made, or not: %v", count)
	}
}

// The changes of one block do not hang on those of others: in any order that keeps those of each block they make the same.
func TestSheetApplyDifferencesInAnyOrder(t *testing.T) {
	t.Parallel()
	d := dice(5454)
	for range 500 {
		a := d.sheetSaying(5)
		b := d.sheetLike(a, 3)
		list := impl.SheetDiff(a, b)
		var turned []sheetChange
		for _, at := range d.order(len(list)) {
			turned = append(turned, list[at])
		}
		if got, code := checkApply(t, "in any order", a, turned); code != 0 || !same(got, b) {
			t.Errorf("%s makes %.600q of %.600q, not %.600q, with code %d", shown(turned), got, a, b, code)
		}
	}
}
