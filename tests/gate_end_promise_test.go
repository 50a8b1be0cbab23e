package tests

import (
	"slices"
	"strconv"
	"testing"

	"loop.example/wharfdesk/impl"
)

type thing struct{ kind, name string }

func thingOf(o impl.GateObject) thing {
	return thing{o.Kind, o.Name}
}

// linksBy are what an object names by its links of a role that are set.
func linksBy(l impl.GateLaw, o impl.GateObject, role int) []thing {
	var list []thing
	for i, f := range shapeOf(l.Shapes, o.Kind).Fields {
		if f.Kind == impl.GateLink && f.Role == role && o.Values[i] != "" {
			list = append(list, thing{f.To, o.Values[i]})
		}
	}
	return list
}

func placeOf(b impl.GateBook, named thing) int {
	return slices.IndexFunc(b.Objects, func(o impl.GateObject) bool { return thingOf(o) == named })
}

// placesWhere are those of a book of which something holds.
func placesWhere(b impl.GateBook, holds func(place int) bool) []int {
	var list []int
	for place := range b.Objects {
		if holds(place) {
			list = append(list, place)
		}
	}
	return list
}

func markedOf(l impl.GateLaw, b impl.GateBook) []int {
	return placesWhere(b, func(place int) bool {
		return !b.Objects[place].Ending && slices.ContainsFunc(linksBy(l, b.Objects[place], impl.GateOwned), func(owner thing) bool {
			return b.Objects[placeOf(b, owner)].Ending
		})
	})
}

// keepersOf has, of each place, the places of those that hold it or are owned by it.
func keepersOf(l impl.GateLaw, b impl.GateBook) [][]int {
	keepers := make([][]int, len(b.Objects))
	for place, o := range b.Objects {
		for _, kept := range append(linksBy(l, o, impl.GateHolds), linksBy(l, o, impl.GateOwned)...) {
			at := placeOf(b, kept)
			keepers[at] = append(keepers[at], place)
		}
	}
	return keepers
}

// greatestOf are the places from which, from keeper to keeper, nothing is met that may not go.
func greatestOf(l impl.GateLaw, b impl.GateBook, may func(place int) bool) []int {
	keepers := keepersOf(l, b)
	return placesWhere(b, func(place int) bool {
		met := []int{place}
		for i := 0; i < len(met); i++ {
			if !may(met[i]) || len(b.Objects[met[i]].Holds) > 0 {
				return false
			}
			for _, keeper := range keepers[met[i]] {
				if !slices.Contains(met, keeper) {
					met = append(met, keeper)
				}
			}
		}
		return true
	})
}

func goingOf(l impl.GateLaw, b impl.GateBook) []int {
	return greatestOf(l, b, func(place int) bool { return b.Objects[place].Ending })
}

// doomedOf goes from each object up to its owners, and looks for an Ending one.
func doomedOf(l impl.GateLaw, b impl.GateBook) []int {
	return greatestOf(l, b, func(place int) bool {
		met := []thing{thingOf(b.Objects[place])}
		for i := 0; i < len(met); i++ {
			o := b.Objects[placeOf(b, met[i])]
			if o.Ending {
				return true
			}
			for _, owner := range linksBy(l, o, impl.GateOwned) {
				if !slices.Contains(met, owner) {
					met = append(met, owner)
				}
			}
		}
		return false
	})
}

// greatestBySets tries every set of Ending objects without Holds, and tells the greatest of those that the document asks for.
func greatestBySets(l impl.GateLaw, b impl.GateBook) []int {
	may := placesWhere(b, func(place int) bool { return b.Objects[place].Ending && len(b.Objects[place].Holds) == 0 })
	keepers := keepersOf(l, b)
	var best []int
	for bits := range 1 << len(may) {
		var set []int
		for i, place := range may {
			if bits>>i&1 == 1 {
				set = append(set, place)
			}
		}
		closed := all(set, func(place int) bool {
			return all(keepers[place], func(keeper int) bool { return slices.Contains(set, keeper) })
		})
		if closed && len(set) > len(best) {
			best = set
		}
	}
	return best
}

// swept is the document's sentence on a sweep.
func swept(l impl.GateLaw, b impl.GateBook) (impl.GateBook, int) {
	if len(markedOf(l, b)) == 0 && len(goingOf(l, b)) == 0 {
		return b, 2
	}
	next := spread(b)
	for _, place := range markedOf(l, b) {
		next.Now++
		next.Objects[place].Ending, next.Objects[place].Version = true, next.Now
	}
	var gone []thing
	for _, place := range goingOf(l, next) {
		gone = append(gone, thingOf(next.Objects[place]))
	}
	next.Objects = slices.DeleteFunc(next.Objects, func(o impl.GateObject) bool { return slices.Contains(gone, thingOf(o)) })
	for i := range next.Objects {
		o := &next.Objects[i]
		leaned := false
		for place, f := range shapeOf(l.Shapes, o.Kind).Fields {
			if f.Kind == impl.GateLink && f.Role == impl.GateLeans && slices.Contains(gone, thing{f.To, o.Values[place]}) {
				o.Values[place], leaned = "", true
			}
		}
		if leaned {
			next.Now++
			o.Version = next.Now
		}
	}
	if next.Now > 1000000 {
		return b, 3
	}
	// What is free is what is neither used nor drawn: by as much more as less is used.
	settle(l, &next)
	return next, 0
}

// dockField is mostly a link, of any role, to any kind.
func (d *dice) dockField(name string, kinds []string) impl.GateField {
	if d.roll(3) == 0 {
		f := d.field(name)
		if f.Kind != impl.GateLink {
			return f
		}
	}
	f := impl.GateField{Name: name, Kind: impl.GateLink, To: pick(d, kinds...), Role: 1 + d.roll(3)}
	f.Must = f.Role != impl.GateLeans && d.roll(12) == 0
	return f
}

// dockLaw is ok, and has many links.
func (d *dice) dockLaw() impl.GateLaw {
	kinds := []string{"k0", "k1", "k2", "k3"}[:1+d.roll(4)]
	for {
		l := impl.GateLaw{Teams: d.teams()}
		for _, kind := range kinds {
			shape := impl.GateShape{Kind: kind}
			for i := range 1 + d.roll(impl.GateMaxFields) {
				f := d.dockField("f"+strconv.Itoa(i), kinds)
				if f.Kind == impl.GateNumber {
					f.Weighs = d.resource()
				}
				shape.Fields = append(shape.Fields, f)
			}
			l.Shapes = append(l.Shapes, shape)
		}
		l.Mends = d.mends(l.Shapes)
		if impl.GateLawOk(l) && len(l.Teams) > 0 {
			return l
		}
	}
}

// dockBook is ok; its objects' names come again in each kind, and how many links are set, how many objects are Ending and how many have Holds is another thing in each book.
func (d *dice) dockBook(l impl.GateLaw, most int) impl.GateBook {
	b := impl.GateBook{Now: 1 + d.roll(30), Tick: d.roll(20)}
	b.Given = d.roll(b.Now + 1)
	for i := range most {
		o := d.object(l.Shapes)
		o.Name, o.Team, o.Version = "o"+strconv.Itoa(10+i/len(l.Shapes)), pick(d, l.Teams...).Name, 1+d.roll(b.Now)
		if placeOf(b, thingOf(o)) < 0 {
			b.Objects = append(b.Objects, o)
		}
	}
	linked, ends, held := 1+d.roll(4), pick(d, 1, 1, 2, 2, 3, 5, 8), 1+d.roll(30)
	for i := range b.Objects {
		o := &b.Objects[i]
		d.link(l, b, o, linked)
		o.Ending = d.roll(8) < ends
		if d.roll(held) == 0 && d.roll(2) == 0 {
			o.Holds = pick(d, []string{"h"}, []string{"g", "h"})
		}
		*o = impl.GateShaped(l.Shapes, l.Mends, *o)
	}
	b.Objects = slices.DeleteFunc(b.Objects, func(o impl.GateObject) bool {
		code, _ := impl.GateCheck(l.Shapes, o)
		return code != 0 || !same(o, impl.GateShaped(l.Shapes, l.Mends, o))
	})
	dropWhatNamesNothing(l, &b)
	d.ledgers(l, &b)
	return b
}

// link sets an object's links, one in so many, and those that must be.
func (d *dice) link(l impl.GateLaw, b impl.GateBook, o *impl.GateObject, linked int) {
	for place, f := range shapeOf(l.Shapes, o.Kind).Fields {
		if f.Kind != impl.GateLink {
			continue
		}
		o.Values[place] = ""
		if f.Must || d.roll(linked) == 0 {
			for range 6 {
				if other := pick(d, b.Objects...); other.Kind == f.To {
					o.Values[place] = other.Name
				}
			}
		}
	}
}

// dropWhatNamesNothing leaves a link empty where it may be, and the object out where not, until all links name something.
func dropWhatNamesNothing(l impl.GateLaw, b book) {
	for {
		ahead := spread(*b)
		b.Objects = slices.DeleteFunc(b.Objects, func(o impl.GateObject) bool {
			for place, f := range shapeOf(l.Shapes, o.Kind).Fields {
				if f.Kind == impl.GateLink && o.Values[place] != "" && placeOf(ahead, thing{f.To, o.Values[place]}) < 0 {
					o.Values[place] = ""
					if f.Must {
						return true
					}
				}
			}
			return false
		})
		if same(*b, ahead) {
			return
		}
	}
}

// dock is a made-up law, and a book of at most so many objects.
func (d *dice) dock(most int) (impl.GateLaw, impl.GateBook) {
	l := d.dockLaw()
	return l, d.dockBook(l, most)
}

func TestGateEndsMadeUp(t *testing.T) {
	d := dice(51)
	some := map[string]int{}
	for range 3000 {
		l, b := d.dock(pick(&d, 3, 6, 12, impl.GateMaxObjects))
		if !impl.GateBookOk(l, b) || !bookIsOk(l, b) {
			t.Fatalf("not ok: %+v, %+v", l, b)
		}
		ending := placesWhere(b, func(place int) bool { return b.Objects[place].Ending })
		for what, f := range map[string]struct {
			call func(impl.GateLaw, impl.GateBook) []int
			want []int
			// most is such that some of it are left out.
			most int
		}{
			"GateMark":   {impl.GateMark, markedOf(l, b), len(b.Objects) - len(ending)},
			"GateGoing":  {impl.GateGoing, goingOf(l, b), len(ending)},
			"GateDoomed": {impl.GateDoomed, doomedOf(l, b), len(b.Objects)},
		} {
			if got := f.call(l, b); !slices.Equal(got, f.want) {
				t.Fatalf("%s is %v, not %v, of %+v, %+v", what, got, f.want, l, b)
			}
			if len(f.want) > 1 && len(f.want) < f.most {
				some[what]++
			}
		}
	}
	for _, what := range []string{"GateMark", "GateGoing", "GateDoomed"} {
		if some[what] < 300 {
			t.Errorf("too few made-up cases: %v", some)
		}
	}
}

// Laws and books with one thing or two turned: nothing is told of those that are not ok any more, and the others are gone by as they are.
func TestGateEndsOfSpoiltBooks(t *testing.T) {
	d := dice(56)
	counts := map[bool]int{}
	for range 3000 {
		l, b := d.dock(pick(&d, 6, 12, impl.GateMaxObjects))
		for range 1 + d.roll(2) {
			d.spoil(&l, &b)
		}
		ok := bookIsOk(l, b)
		var marked, going, doomed []int
		wantBook, wantCode := impl.GateBook{}, 1
		if ok {
			marked, going, doomed = markedOf(l, b), goingOf(l, b), doomedOf(l, b)
			wantBook, wantCode = swept(l, b)
		}
		if !slices.Equal(impl.GateMark(l, b), marked) || !slices.Equal(impl.GateGoing(l, b), going) || !slices.Equal(impl.GateDoomed(l, b), doomed) {
			t.Fatalf("not %v, %v and %v: %+v, %+v", marked, going, doomed, l, b)
		}
		if got, code := impl.GateSweep(l, b); code != wantCode || !same(got, wantBook) {
			t.Fatalf("%d and %+v, not %d and %+v, of %+v, %+v", code, got, wantCode, wantBook, l, b)
		}
		counts[ok]++
	}
	if counts[true] < 300 || counts[false] < 1000 {
		t.Errorf("too few made-up cases: %v", counts)
	}
}

// The greatest set, by trying all of them.
func TestGateGoingIsTheGreatest(t *testing.T) {
	d := dice(52)
	some, circles := 0, 0
	for range 3000 {
		l, b := d.dock(2 + d.roll(7))
		want := greatestBySets(l, b)
		if got := impl.GateGoing(l, b); !slices.Equal(got, want) {
			t.Fatalf("%v, not %v, of %+v, %+v", got, want, l, b)
		}
		if len(want) > 0 && len(want) < len(b.Objects) {
			some++
		}
		// One that goes though another one keeps it: so they go together.
		keepers := keepersOf(l, b)
		if slices.ContainsFunc(want, func(place int) bool {
			return slices.ContainsFunc(keepers[place], func(keeper int) bool { return keeper != place })
		}) {
			circles++
		}
	}
	if some < 500 || circles < 200 {
		t.Errorf("too few made-up cases: %d, %d", some, circles)
	}
}

// atTheEnd brings Now near to its end, in some books.
func (d *dice) atTheEnd(b book) {
	if d.roll(3) == 0 {
		b.Now = impl.GateMaxVersion - d.roll(8)
	}
}

// Promises 7 and 9, and that a sweep does what the document says, and no more.
func TestGateSweepMadeUp(t *testing.T) {
	t.Parallel()
	d := dice(53)
	codes := map[int]int{}
	for range 2500 {
		l, b := d.dock(pick(&d, 4, 10, impl.GateMaxObjects))
		d.atTheEnd(&b)
		for range 4 {
			want, wantCode := swept(l, b)
			ahead := spread(b)
			got, code := impl.GateSweep(l, ahead)
			codes[code]++
			if code != wantCode || !same(got, want) {
				t.Fatalf("%d and %+v, not %d and %+v, of %+v, %+v", code, got, wantCode, want, l, b)
			}
			if !same(whole(ahead), whole(spread(b))) {
				t.Fatalf("the book was changed: %+v, %+v", l, b)
			}
			newMemory(t, "GateSweep", got, ahead, l)
			if !impl.GateBookOk(l, got) || !bookIsOk(l, got) || !boundsHold(l, got) {
				t.Fatalf("not ok: %+v, %+v", l, got)
			}
			wholeSets(t, l, b, got)
			b = got
		}
	}
	if codes[0] < 2000 || codes[2] < 1000 || codes[3] < 100 {
		t.Errorf("too few made-up cases: %v", codes)
	}
}

// wholeSets is promise 9, by the book ahead of a sweep and the one behind it, and promise 7 of the latter.
func wholeSets(t *testing.T, l impl.GateLaw, ahead, behind impl.GateBook) {
	t.Helper()
	for _, o := range behind.Objects {
		if !linksAreThere(l, behind, o) {
			t.Fatalf("%+v names what is not there", o)
		}
		was := ahead.Objects[placeOf(ahead, thingOf(o))]
		for _, kept := range append(linksBy(l, was, impl.GateHolds), linksBy(l, was, impl.GateOwned)...) {
			if placeOf(behind, kept) < 0 {
				t.Fatalf("%v is gone, though %+v stays", kept, was)
			}
		}
	}
}

// Promise 7: through sweeps and all that stands in the chapter on purses, in any order.
func TestGateLinksMadeUp(t *testing.T) {
	t.Parallel()
	d := dice(54)
	gone := 0
	for range 400 {
		l, b := d.dock(impl.GateMaxObjects)
		for range 20 {
			next, code := impl.GateSweep(l, b)
			if d.roll(3) > 0 {
				next, code = d.asked(l, b).call(l, b)
			}
			if code == 1 || !bookIsOk(l, next) || !boundsHold(l, next) {
				t.Fatalf("%d: not ok: %+v, %+v", code, l, next)
			}
			for _, o := range next.Objects {
				if !linksAreThere(l, next, o) {
					t.Fatalf("%+v names what is not there: %+v, %+v", o, l, next)
				}
			}
			gone += len(b.Objects) - len(next.Objects)
			b = next
		}
	}
	if gone < 1000 {
		t.Errorf("too few are gone: %d", gone)
	}
}

// unlinked is an object without its version, whether it is Ending, and its leaning links; those that are set are told.
func unlinked(l impl.GateLaw, o impl.GateObject) (impl.GateObject, []string) {
	o = spread(o)
	var leaning []string
	for place, f := range shapeOf(l.Shapes, o.Kind).Fields {
		if f.Kind == impl.GateLink && f.Role == impl.GateLeans {
			leaning = append(leaning, o.Values[place])
			o.Values[place] = ""
		}
	}
	o.Version, o.Ending = 0, false
	return o, leaning
}

// endsHold is promise 8 of a book ahead of all sweeps and the one behind them.
func endsHold(t *testing.T, l impl.GateLaw, ahead, behind impl.GateBook) {
	t.Helper()
	doomed := impl.GateDoomed(l, ahead)
	became := endingSet(l, ahead)
	for place, was := range ahead.Objects {
		at := placeOf(behind, thingOf(was))
		if (at < 0) != slices.Contains(doomed, place) {
			t.Fatalf("%+v, doomed being %v: %+v, %+v, %+v", was, doomed, l, ahead, behind)
		}
		if at < 0 {
			continue
		}
		is := behind.Objects[at]
		wasRest, wasLeaning := unlinked(l, was)
		isRest, isLeaning := unlinked(l, is)
		if !same(wasRest, isRest) || is.Version < was.Version {
			t.Fatalf("%+v became %+v", was, is)
		}
		if is.Ending != slices.Contains(became, place) {
			t.Fatalf("%+v became %+v, those to end being %v", was, is, became)
		}
		emptied := !slices.Equal(wasLeaning, isLeaning)
		if (is.Version != was.Version) != (emptied || is.Ending != was.Ending) {
			t.Fatalf("%+v became %+v", was, is)
		}
		for i, named := range wasLeaning {
			if isLeaning[i] != named && isLeaning[i] != "" {
				t.Fatalf("%+v became %+v", was, is)
			}
		}
	}
	if behind.Tick != ahead.Tick || behind.Given != ahead.Given || !same(behind.Grants, ahead.Grants) || !same(behind.Purses, ahead.Purses) {
		t.Fatalf("%+v became %+v", ahead, behind)
	}
}

// endingSet are the places of those that are Ending, and of what they own, round by round.
func endingSet(l impl.GateLaw, b impl.GateBook) []int {
	b = spread(b)
	for range b.Objects {
		for _, place := range markedOf(l, b) {
			b.Objects[place].Ending = true
		}
	}
	return placesWhere(b, func(place int) bool { return b.Objects[place].Ending })
}

// Promises 8 and 9: sweeps, until there is nothing to do.
func TestGateSweepsComeToAnEnd(t *testing.T) {
	t.Parallel()
	d := dice(55)
	longest, stayed, emptied := 0, 0, 0
	for range 4000 {
		l, first := d.dock(pick(&d, 2, 6, 12, 20, impl.GateMaxObjects))
		b, sweeps := first, 0
		for {
			var left []thing
			for _, place := range impl.GateDoomed(l, b) {
				left = append(left, thingOf(b.Objects[place]))
			}
			next, code := impl.GateSweep(l, b)
			if code == 2 {
				if !same(next, b) || len(left) != 0 {
					t.Fatalf("nothing to do, and %v are doomed: %+v, %+v", left, l, b)
				}
				break
			}
			if sweeps++; code != 0 || sweeps > len(first.Objects) {
				t.Fatalf("%d at sweep %d: %+v, %+v", code, sweeps, l, first)
			}
			wholeSets(t, l, b, next)
			// Who is doomed does not change on the way, but for those that are gone.
			left = slices.DeleteFunc(left, func(named thing) bool { return placeOf(next, named) < 0 })
			for i, place := range impl.GateDoomed(l, next) {
				if i >= len(left) || thingOf(next.Objects[place]) != left[i] {
					t.Fatalf("others than %v are doomed: %+v, %+v", left, l, next)
				}
			}
			b = next
		}
		endsHold(t, l, first, b)
		longest = max(longest, sweeps)
		if sweeps > 1 && slices.ContainsFunc(b.Objects, func(o impl.GateObject) bool { return o.Ending }) {
			stayed++
		}
		if len(b.Objects) < len(first.Objects) && len(b.Objects) > 0 && b.Now > first.Now {
			emptied++
		}
	}
	if longest < 5 || stayed < 200 || emptied < 200 {
		t.Errorf("too few made-up cases: %d, %d, %d", longest, stayed, emptied)
	}
}
