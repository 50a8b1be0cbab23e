package tests

import (
	"fmt"
	"math"
	"slices"
	"testing"

	"loop.example/wharfdesk/impl"
)

// recMajorIs says what is told of a place, the world staying as it is.
func recMajorIs(t *testing.T, what string, w impl.RecWorld, index int, text string, told bool) {
	t.Helper()
	w = spread(w)
	before := whole(w)
	if got, is := impl.RecMajor(w, index); got != text || is != told {
		t.Errorf("%s, place %d: %.9q and %v, not %.9q and %v", what, index, got, is, text, told)
	}
	if got, is := recMajorAsRead(w, index); got != text || is != told {
		t.Errorf("%s, place %d: %.9q and %v by the second reading", what, index, got, is)
	}
	if !same(whole(w), before) {
		t.Errorf("%s: the world was changed", what)
	}
}

func recAgrees(t *testing.T, what string, w impl.RecWorld, want bool) {
	t.Helper()
	w = spread(w)
	before := whole(w)
	if got := impl.RecAgree(w); got != want {
		t.Errorf("%s: %v", what, got)
	}
	if got := recAgreeAsRead(w); got != want {
		t.Errorf("%s: %v by the second reading", what, got)
	}
	if !same(whole(w), before) {
		t.Errorf("%s: the world was changed", what)
	}
}

func TestRecMajorIndices(t *testing.T) {
	slots := recNumbered(120, "s", func(place int) int { return 1 + place })
	w := recAsleep(recHasSafe(slots...), recHasSafe(slots...), recHasSafe(slots[:119]...))
	for index := 1; index <= 120; index++ {
		recMajorIs(t, "120 slots", w, index, slots[index-1].Text, true)
	}
	for _, index := range []int{math.MinInt, math.MinInt + 1, -1000, -120, -2, -1, 0, 121, 122, 240, 1000, 1000000, math.MaxInt - 1, math.MaxInt} {
		recMajorIs(t, "120 slots", w, index, "", false)
		recMajorIs(t, "a port", recPort(), index, "", false)
		recMajorIs(t, "new ones", impl.RecNewWorld(5), index, "", false)
		recMajorIs(t, "nothing", impl.RecWorld{}, index, "", false)
	}
	for index, text := range map[int]string{1: "a", 2: "", 3: "", 4: "", 120: ""} {
		recMajorIs(t, "a port", recPort(), index, text, index == 1)
	}
	// Two have 119 slots, and one has more.
	recMajorIs(t, "one has more", recAsleep(recHasSafe(slots...), recHasSafe(slots[:119]...), recHasSafe(slots[:119]...)), 120, "", false)
	recMajorIs(t, "one has more", recAsleep(recHasSafe(slots...), recHasSafe(slots[:119]...), recHasSafe(slots[:119]...)), 119, slots[118].Text, true)
}

// recSpots are the places of so many recorders, in each choice of some of them.
func recSpots(of int) [][]bool {
	spots := [][]bool{nil}
	for range of {
		var longer [][]bool
		for _, spot := range spots {
			longer = append(longer, append(slices.Clone(spot), false), append(slices.Clone(spot), true))
		}
		spots = longer
	}
	return spots
}

// Just half of them, and one more; whoever has the slot, and whatever the others have.
func TestRecMajorMoreThanHalf(t *testing.T) {
	slot := recSlot(5, "t")
	others := map[string]func(at int) recKept{
		"nothing":        func(int) recKept { return recHasSafe() },
		"an empty slot":  func(int) recKept { return recHasSafe(recSlot(0, "")) },
		"another ballot": func(at int) recKept { return recHasSafe(recSlot(10+at, "t")) },
		"another text":   func(at int) recKept { return recHasSafe(recSlot(5, fmt.Sprint("o", at))) },
		"an empty text":  func(at int) recKept { return recHasSafe(recSlot(10+at, "")) },
		"it on the Disk": func(at int) recKept {
			return recKept{disk: impl.RecDisk{Promise: 9, Known: 1, Slots: recSlots(slot)}}
		},
		"it behind": func(int) recKept { return recHasSafe(recSlot(0, ""), slot) },
	}
	for of := 1; of <= 5; of++ {
		for _, spot := range recSpots(of) {
			// One alone is most of them, whatever it has.
			if of == 1 && !spot[0] {
				continue
			}
			for what, other := range others {
				var row []recKept
				count := 0
				for at, has := range spot {
					if !has {
						row = append(row, other(at))
						continue
					}
					row = append(row, recHasSafe(slot))
					count++
				}
				if 2*count > of {
					recMajorIs(t, fmt.Sprintf("%v, the others have %s", spot, what), recAsleep(row...), 1, "t", true)
				} else {
					recMajorIs(t, fmt.Sprintf("%v, the others have %s", spot, what), recAsleep(row...), 1, "", false)
				}
			}
		}
	}
}

func TestRecMajorSlots(t *testing.T) {
	for what, c := range map[string]struct {
		slots []impl.RecSlot
		text  string
		told  bool
	}{
		"all the same":               {recSome(5, recSlot(3, "a")), "a", true},
		"one text under two ballots": {recSlots(recSlot(1, "a"), recSlot(1, "a"), recSlot(2, "a"), recSlot(2, "a"), recSlot(3, "a")), "", false},
		"one ballot of two texts":    {recSlots(recSlot(1, "a"), recSlot(1, "a"), recSlot(1, "b"), recSlot(1, "b"), recSlot(1, "c")), "", false},
		"the lower ballot":           {recSlots(recSlot(9, "b"), recSlot(1, "a"), recSlot(9, "b"), recSlot(1, "a"), recSlot(1, "a")), "a", true},
		"the last three":             {recSlots(recSlot(9, "b"), recSlot(8, "c"), recSlot(1, "a"), recSlot(1, "a"), recSlot(1, "a")), "a", true},
		"no ballot":                  {recSome(5, recSlot(0, "")), "", false},
		"no ballot of most":          {recSlots(recSlot(0, ""), recSlot(0, ""), recSlot(0, ""), recSlot(1, "a"), recSlot(1, "a")), "", false},
		"an empty text":              {recSlots(recSlot(2, ""), recSlot(2, ""), recSlot(2, ""), recSlot(1, "a"), recSlot(1, "a")), "", true},
		"an empty text of a few":     {recSlots(recSlot(2, ""), recSlot(2, ""), recSlot(0, ""), recSlot(0, ""), recSlot(0, "")), "", false},
		"the greatest ballot":        {recSome(5, recSlot(1000000, letters(160))), letters(160), true},
		"the least one":              {recSome(5, recSlot(1, "\xff\x00")), "\xff\x00", true},
	} {
		for turned := range 5 {
			slots := append(slices.Clone(c.slots[turned:]), c.slots[:turned]...)
			var row []recKept
			for _, s := range slots {
				row = append(row, recHasSafe(s))
			}
			recMajorIs(t, what, recAsleep(row...), 1, c.text, c.told)
			up := recAsleep(row...)
			for at := range up.Recorders {
				up.Recorders[at].Up = at%2 == 0
			}
			recMajorIs(t, what+", some of them Up", up, 1, c.text, c.told)
		}
	}
}

func TestRecMajorAndAgreeNotOk(t *testing.T) {
	for what, w := range recNotOk() {
		for _, index := range []int{-1, 0, 1, 2, 120, 121} {
			recMajorIs(t, what, w, index, "", false)
		}
		recAgrees(t, what, w, false)
	}
}

func TestRecAgree(t *testing.T) {
	a, b := recSlot(3, "a"), recSlot(4, "b")
	both := []impl.RecFix{recFix(1, "a"), recFix(2, "b")}
	for what, c := range map[string]struct {
		row   []recKept
		fixed []impl.RecFix
		want  bool
	}{
		"nothing known":                          {[]recKept{{}, {}, {}}, nil, true},
		"nothing known, something fixed":         {[]recKept{{}, {}, {}}, both, true},
		"known by one":                           {[]recKept{{}, recKnowsAll(a, b), {}}, both, true},
		"known by one, and more is fixed":        {[]recKept{{}, recKnowsAll(a), {}}, append(slices.Clone(both), recFix(120, "far")), true},
		"known by all":                           {[]recKept{recKnowsAll(a, b), recKnowsAll(a), recKnowsAll(a, b)}, both, true},
		"known under other ballots":              {[]recKept{recKnowsAll(recSlot(9, "a"), recSlot(1, "b")), recKnowsAll(recSlot(8, "a"))}, both, true},
		"known, and nothing fixed":               {[]recKept{{}, {}, recKnowsAll(a)}, nil, false},
		"known, and the first not fixed":         {[]recKept{{}, {}, recKnowsAll(a, b)}, both[1:], false},
		"known, and the last not fixed":          {[]recKept{recKnowsAll(a, b), {}, {}}, both[:1], false},
		"known otherwise":                        {[]recKept{recKnowsAll(b), {}, {}}, both, false},
		"known otherwise, the last":              {[]recKept{recKnowsAll(a, a), {}, {}}, both, false},
		"known otherwise by the last":            {[]recKept{recKnowsAll(a, b), {}, recKnowsAll(a, recSlot(4, "c"))}, both, false},
		"an empty text known":                    {[]recKept{recKnowsAll(recSlot(1, "")), {}}, []impl.RecFix{recFix(1, "")}, true},
		"an empty text known, and nothing fixed": {[]recKept{recKnowsAll(recSlot(1, "")), {}}, nil, false},
		"an empty text known otherwise":          {[]recKept{recKnowsAll(recSlot(1, "")), {}}, both, false},
		"empty where a text is known":            {[]recKept{recKnowsAll(a), {}}, []impl.RecFix{recFix(1, "")}, false},
		"not known on the Disk":                  {[]recKept{{disk: impl.RecDisk{Promise: 9, Known: 1, Slots: recSlots(a, recSlot(4, "c"))}}, {}}, both, true},
		"known on a Safe disk alone":             {[]recKept{{safe: impl.RecDisk{Promise: 9, Known: 1, Slots: recSlots(b)}}, {}}, nil, true},
		"most have it":                           {[]recKept{recHasSafe(a, b), recHasSafe(a, b), {}}, both, true},
		"most have it, and more is fixed":        {[]recKept{recHasSafe(a), recHasSafe(a), {}}, both, true},
		"most have it, and nothing fixed":        {[]recKept{recHasSafe(a), recHasSafe(a), {}}, nil, false},
		"most have it, and the first not fixed":  {[]recKept{recHasSafe(a, b), recHasSafe(a, b), {}}, both[1:], false},
		"most have it, and the last not fixed":   {[]recKept{recHasSafe(a, b), recHasSafe(a, b), {}}, both[:1], false},
		"most have it otherwise":                 {[]recKept{recHasSafe(b), recHasSafe(b), {}}, both, false},
		"most have an empty text":                {[]recKept{recHasSafe(recSlot(1, "")), recHasSafe(recSlot(1, "")), {}}, nil, false},
		"most have a text, empty in Fixed":       {[]recKept{recHasSafe(a), recHasSafe(a), {}}, []impl.RecFix{recFix(1, "")}, false},
		"half have it":                           {[]recKept{recHasSafe(b), recHasSafe(b), {}, {}}, both, true},
		"half have it, and nothing fixed":        {[]recKept{recHasSafe(a), {}}, nil, true},
		"a few have it otherwise":                {[]recKept{recHasSafe(a, b), recHasSafe(a, b), recHasSafe(b, a)}, both, true},
		"most know it otherwise than they have":  {[]recKept{recJoin(recHasSafe(a), recKnowsAll(a)), recJoin(recHasSafe(a), recKnowsAll(b)), {}}, both, false},
		"at another place":                       {[]recKept{recKnowsAll(a), {}}, []impl.RecFix{recFix(2, "a")}, false},
	} {
		w := recAsleep(c.row...)
		w.Fixed = c.fixed
		recAgrees(t, what, w, c.want)
		w.Flight = recPort().Flight[3:4]
		w.Flight[0].From = 1
		recAgrees(t, what+", with something in flight", w, c.want)
	}
	recAgrees(t, "a port", recPort(), true)
	recAgrees(t, "a port, and nothing is fixed", recWorldWith(recPort(), recFixes()), false)
	recAgrees(t, "unnoted", recUnnoted(), false)
	recAgrees(t, "unnoted, and noted", recWorldWith(recUnnoted(), recNoted), true)
}

// Each place, the last one too: by what most have, and by what one knows.
func TestRecAgreeAllPlaces(t *testing.T) {
	slots := recNumbered(120, "s", func(place int) int { return 1 + place })
	var all []impl.RecFix
	for i, s := range slots {
		all = append(all, recFix(i+1, s.Text))
	}
	for what, w := range map[string]impl.RecWorld{
		"most have it":  recAsleep(recHasSafe(slots...), recKept{}, recHasSafe(slots...)),
		"one knows it":  recAsleep(recKept{}, recKept{}, recKnowsAll(slots...)),
		"one alone has": recAsleep(recHasSafe(slots...)),
	} {
		w.Fixed = all
		recAgrees(t, what, w, true)
		for at := range all {
			w.Fixed = slices.Delete(slices.Clone(all), at, at+1)
			recAgrees(t, fmt.Sprintf("%s, and %d is not fixed", what, at+1), w, false)
			w.Fixed = slices.Clone(all)
			w.Fixed[at].Text = "other"
			recAgrees(t, fmt.Sprintf("%s, and %d is fixed otherwise", what, at+1), w, false)
		}
	}
}
