package tests

import (
	"slices"
	"testing"

	"loop.example/wharfdesk/impl"
)

// checkThree is promise 51: of three sheets it does not matter which two are laid first.
func checkThree(t *testing.T, what string, a, b, c sheet) {
	t.Helper()
	one, two := impl.SheetOver(impl.SheetOver(a, b), c), impl.SheetOver(a, impl.SheetOver(b, c))
	if !same(one, two) {
		t.Errorf("promise 51: %s: %.600q, %.600q, %.600q: %.600q, but %.600q", what, a, b, c, one, two)
	}
}

// fewTeams are sheets in which a team is said in all ways that matter, or not at all; fewBerths the same of a berth.
func fewTeams() []sheet {
	list := []sheet{{}}
	for n := range 9 {
		list = append(list, sheetOf(keysSaid("team", n, 0)))
	}
	return list
}

func fewBerths() []sheet {
	list := []sheet{{}}
	marks := [][]sheetLine{nil, {said("mark", "l")}, {said("mark", "m")}, {said("mark", "l"), said("mark", "m")}}
	for n := range 3 {
		for _, of := range marks {
			b := keysSaid("berth", n, 0)
			b.Lines = append(b.Lines, of...)
			list = append(list, sheetOf(b))
		}
	}
	return list
}

// fewBoth are sheets of a berth and a team.
func fewBoth() []sheet {
	var list []sheet
	for _, berth := range fewBerths() {
		for _, team := range fewTeams() {
			list = append(list, sheetOf(slices.Concat(berth.Blocks, team.Blocks)...))
		}
	}
	return list
}

// Promises 49 to 52 over all sheets of a few blocks.
func TestSheetPromises49To52AllSmall(t *testing.T) {
	t.Parallel()
	both := fewBoth()
	for _, s := range both {
		checkDefaults(t, "a small sheet", s)
		checkAlone(t, "a small sheet", s)
	}
	for _, few := range [][]sheet{fewTeams(), fewBerths()} {
		for _, a := range few {
			for _, b := range few {
				checkOver(t, "two small sheets", a, b)
				for _, c := range few {
					checkThree(t, "three small sheets", a, b, c)
				}
			}
		}
	}
	for i, a := range both {
		for j := i % 7; j < len(both); j += 7 {
			checkOver(t, "two small sheets", a, both[j])
		}
	}
}

// sheetSaying is a valid sheet in which many lines say what is so by default.
func (d *dice) sheetSaying(most int) sheet {
	s := d.madeUpSheet(most)
	for _, b := range s.Blocks {
		for i, line := range b.Lines {
			if place, many := sheetKey(b.Kind, line.Key); !many && d.roll(3) == 0 {
				b.Lines[i].Words = slices.Clone(sheetTableRead[b.Kind][place].Default)
			}
		}
	}
	return s
}

// sheetLike is a valid sheet that has some blocks of another one, as they are or otherwise, and others.
func (d *dice) sheetLike(s sheet, most int) sheet {
	blocks := d.sheetSaying(most).Blocks
	for _, b := range s.Blocks {
		if _, there := blockIn(sheetOf(blocks...), b.Kind, b.Name); there || d.roll(3) == 0 {
			continue
		}
		if d.roll(3) == 0 {
			b.Lines = slices.Clone(b.Lines)
		} else {
			b.Lines = d.sheetBlockOf(b.Kind, b.Name).Lines
		}
		blocks = append(blocks, b)
	}
	return sheetInOrder(blocks)
}

// A sheet over another one that is like it: there are blocks and keys that both have, and such that one has alone.
func TestSheetPromises49To52MadeUp(t *testing.T) {
	t.Parallel()
	d := dice(4952)
	count := map[string]int{}
	for n := range 1200 {
		most := pick(&d, 0, 1, 2, 3, 5, 8)
		a := d.sheetSaying(most)
		if n%100 == 0 {
			a = d.greatSheet()
		}
		b, c := d.sheetLike(a, most), d.sheetLike(a, 2)
		checkDefaults(t, "a sheet that is made up", a)
		checkAlone(t, "a sheet that is made up", a)
		over := checkOver(t, "two that are made up", a, b)
		three := checkOver(t, "three that are made up", over, c)
		if len(over.Blocks) != 0 && len(three.Blocks) != 0 {
			checkThree(t, "three that are made up", a, b, c)
		}
		if !same(over, a) && !same(over, b) {
			count["is neither"]++
		}
		if !same(over, impl.SheetOver(b, a)) {
			count["hangs on which is over"]++
		}
		if !same(impl.SheetFill(a), a) && !same(impl.SheetTrim(a), a) {
			count["is filled and trimmed"]++
		}
	}
	for _, what := range []string{"is neither", "hangs on which is over", "is filled and trimmed"} {
		if count[what] < 400 {
			t.Errorf("too few: %v", count)
		}
	}
}

// Three sheets with as many blocks as there may be in all, and with more.
func TestSheetPromise51NearTheLimit(t *testing.T) {
	t.Parallel()
	d := dice(51)
	count := map[bool]int{}
	for range 150 {
		blocks := slices.Concat(manyBlocks("berth", 20), manyBlocks("service", 20), manyBlocks("team", 20))
		if d.roll(3) == 0 {
			blocks = append(blocks, blockOf("team", "z"))
		}
		var sheets [3]sheet
		for i, b := range blocks {
			in := 1 + d.roll(7)
			for part := range sheets {
				if in>>part&1 == 1 {
					if i%10 == 0 {
						b = d.sheetBlockOf(b.Kind, b.Name)
					}
					sheets[part].Blocks = append(sheets[part].Blocks, b)
				}
			}
		}
		for part := range sheets {
			sheets[part] = sheetInOrder(sheets[part].Blocks)
		}
		fits := len(blocks) <= 60
		over := checkOver(t, "near the limit", checkOver(t, "near the limit", sheets[0], sheets[1]), sheets[2])
		if (len(over.Blocks) == len(blocks)) != fits {
			t.Errorf("of %d blocks there are %d", len(blocks), len(over.Blocks))
		}
		if fits {
			checkThree(t, "near the limit", sheets[0], sheets[1], sheets[2])
		}
		count[fits]++
	}
	if count[true] < 50 || count[false] < 20 {
		t.Errorf("sheets that fit, or not: %v", count)
	}
}

// Sheets that are spoilt in some places: nothing comes of those that are not valid.
func TestSheetDefaultsAndOverOfSpoilt(t *testing.T) {
	t.Parallel()
	d := dice(4142)
	count := map[bool]int{}
	for range 2000 {
		s, other := d.spoiltSheet(), d.sheetSaying(3)
		checkDefaults(t, "a sheet that is spoilt", s)
		valid := sheetValidAsRead(s)
		for _, over := range []sheet{checkOver(t, "a spoilt one over another", other, s), checkOver(t, "a spoilt one under another", s, other)} {
			if !valid && len(over.Blocks) != 0 {
				t.Errorf("%.600q and %.600q: %.600q", s, other, over)
			}
		}
		count[valid]++
	}
	if count[true] < 200 || count[false] < 200 {
		t.Errorf("sheets that are valid, or not: %v", count)
	}
}
