package tests

import (
	"slices"
	"strconv"
	"testing"

	"loop.example/wharfdesk/impl"
)

// askIsOk is the document's table of what the verbs use.
func askIsOk(l impl.GateLaw, a ask) bool {
	at := slices.IndexFunc(l.Shapes, func(s impl.GateShape) bool { return s.Kind == a.Kind })
	object := at >= 0 && names.MatchString(a.Name)
	values := at >= 0 && len(a.Values) == len(l.Shapes[at].Fields)
	used := ask{Who: a.Who, Verb: a.Verb, Kind: a.Kind, Name: a.Name}
	ok := false
	switch a.Verb {
	case impl.GateMake:
		used.Team, used.Values, used.Holds = a.Team, a.Values, a.Holds
		holds := len(a.Holds) <= 3 && ascendingKeys(a.Holds, func(hold string) []string { return texts{hold} }) && all(a.Holds, names.MatchString)
		ok = object && values && isTeam(l, a.Team) && holds
	case impl.GateChange:
		used.Values, used.Seen = a.Values, a.Seen
		ok = object && values && a.Seen >= 0
	case impl.GateEnd:
		used.Seen = a.Seen
		ok = object && a.Seen >= 0
	case impl.GateLetGo:
		used.Hold = a.Hold
		ok = object && names.MatchString(a.Hold)
	case impl.GateGive:
		used = ask{Who: a.Who, Verb: a.Verb, To: a.To, Rule: a.Rule}
		// A rule that is ok is covered by itself.
		ok = names.MatchString(a.To) && impl.GateCovers(nil, ruleList{a.Rule}, a.Rule)
	case impl.GateTake:
		used = ask{Who: a.Who, Verb: a.Verb, Number: a.Number}
		ok = a.Number >= 1
	}
	return ok && impl.GateLawOk(l) && names.MatchString(a.Who) && same(a, used)
}

// hearing is an ask in front of a book, read once more from the document.
type hearing struct {
	l         impl.GateLaw
	b         impl.GateBook
	door      string
	a         ask
	at        int
	old, next impl.GateObject
	grant     int
	// unpaid says that the purses are not looked at.
	unpaid bool
}

func hearingOf(l impl.GateLaw, b impl.GateBook, door string, a ask) hearing {
	h := hearing{l: l, b: b, door: door, a: a, at: placeOf(b, thing{a.Kind, a.Name})}
	h.grant = slices.IndexFunc(b.Grants, func(g impl.GateGrant) bool { return g.Number == a.Number })
	if h.at >= 0 {
		h.old = b.Objects[h.at]
	}
	h.next = h.old
	switch a.Verb {
	case impl.GateMake:
		h.next = impl.GateObject{Kind: a.Kind, Name: a.Name, Team: a.Team, Values: a.Values, Holds: a.Holds}
	case impl.GateChange:
		h.next.Values = a.Values
	}
	h.next = impl.GateShaped(l.Shapes, l.Mends, h.next)
	return h
}

func (h hearing) asks(verbs ...int) bool {
	return slices.Contains(verbs, h.a.Verb)
}

func (h hearing) may() bool {
	var mine ruleList
	for _, g := range h.b.Grants {
		if g.To == h.a.Who {
			mine = append(mine, g.Rule)
		}
	}
	mayGive := func(r impl.GateRule) bool {
		return all(append(slices.Clone(r.Verbs), impl.GateGive), func(verb int) bool { return coveredBy(h.l.Teams, mine, r, verb) })
	}
	switch {
	case h.asks(impl.GateGive):
		return mayGive(h.a.Rule)
	case h.asks(impl.GateTake):
		return h.b.Grants[h.grant].By == h.a.Who || mayGive(h.b.Grants[h.grant].Rule)
	}
	return allowedByOne(h.l.Teams, mine, act(h.a.Verb, h.a.Kind, h.next.Team, h.a.Name))
}

// more is what the object would weigh more on a ledger.
func (h hearing) more(team, resource string) int {
	if !h.asks(impl.GateMake, impl.GateChange) || !standsUnder(h.l.Teams, h.next.Team, team) {
		return 0
	}
	if h.asks(impl.GateMake) {
		return weightOf(h.l, h.next, resource)
	}
	return weightOf(h.l, h.next, resource) - weightOf(h.l, h.old, resource)
}

func (h hearing) wrongLink() int {
	return slices.IndexFunc(h.links(), func(link thing) bool {
		at := placeOf(h.b, link)
		return link.name != "" && (at < 0 || h.b.Objects[at].Ending)
	})
}

// links are, field by field, what a link that is set anew names, or nothing.
func (h hearing) links() []thing {
	fields := shapeOf(h.l.Shapes, h.next.Kind).Fields
	list := make([]thing, len(fields))
	for i, f := range fields {
		anew := h.asks(impl.GateMake) || h.next.Values[i] != h.old.Values[i]
		if f.Kind == impl.GateLink && anew {
			list[i] = thing{f.To, h.next.Values[i]}
		}
	}
	return list
}

func (h hearing) tooDear() int {
	return slices.IndexFunc(h.b.Ledgers, func(ledger impl.GateLedger) bool {
		has := 0
		for _, p := range h.b.Purses {
			if p.Door == h.door && p.Team == ledger.Team && p.Resource == ledger.Resource {
				has = p.Amount
			}
		}
		return h.more(ledger.Team, ledger.Resource) > has
	})
}

// refusal is the document's list of codes from 3 on.
func (h hearing) refusal() impl.GateSaid {
	onObject := h.asks(impl.GateChange, impl.GateEnd, impl.GateLetGo)
	if h.asks(impl.GateMake) && h.at >= 0 || onObject && h.at < 0 || h.asks(impl.GateTake) && h.grant < 0 {
		return refused(3, 0)
	}
	if !h.may() {
		return refused(4, 0)
	}
	if h.a.Seen != 0 && h.a.Seen != h.old.Version {
		return impl.GateSaid{Code: 5, Version: h.old.Version}
	}
	if h.asks(impl.GateChange, impl.GateEnd) && h.old.Ending {
		return refused(6, 0)
	}
	if h.asks(impl.GateMake, impl.GateChange) {
		if code, place := impl.GateCheck(h.l.Shapes, h.next); code != 0 {
			return refused(7, place)
		}
		if code, place := impl.GateTurned(h.l.Shapes, h.old, h.next); h.asks(impl.GateChange) && code == 4 {
			return refused(8, place)
		}
		if place := h.wrongLink(); place >= 0 {
			return refused(9, place)
		}
		if place := h.tooDear(); place >= 0 && !h.unpaid {
			return refused(10, place)
		}
	}
	noHold := h.asks(impl.GateLetGo) && !slices.Contains(h.old.Holds, h.a.Hold)
	full := h.asks(impl.GateMake) && len(h.b.Objects) == 40 || h.asks(impl.GateGive) && len(h.b.Grants) == 24
	if noHold || full || h.b.Now == 1000000 {
		return refused(11, 0)
	}
	return impl.GateSaid{}
}

// behind is the book behind an ask that is done: what is free is worked out anew.
func (h hearing) behind() impl.GateBook {
	next := spread(h.b)
	next.Now++
	for i := range next.Purses {
		p := &next.Purses[i]
		if p.Door == h.door {
			p.Amount -= max(0, h.more(p.Team, p.Resource))
		}
	}
	next.Purses = slices.DeleteFunc(next.Purses, func(p impl.GatePurse) bool { return p.Amount == 0 })
	o := spread(h.next)
	o.Version = next.Now
	switch h.a.Verb {
	case impl.GateMake:
		next.Objects = append(next.Objects, o)
	case impl.GateChange:
		next.Objects[h.at] = o
	case impl.GateEnd:
		next.Objects[h.at].Ending, next.Objects[h.at].Version = true, next.Now
	case impl.GateLetGo:
		o.Holds = slices.DeleteFunc(o.Holds, func(hold string) bool { return hold == h.a.Hold })
		next.Objects[h.at] = o
	case impl.GateGive:
		next.Grants = append(next.Grants, impl.GateGrant{Number: next.Now, To: h.a.To, By: h.a.Who, Rule: h.a.Rule})
		next.Given = next.Now
	case impl.GateTake:
		next.Grants = slices.Delete(next.Grants, h.grant, h.grant+1)
		next.Given = next.Now
	}
	inOrder(&next)
	settle(h.l, &next)
	return next
}

// passed is the document's chapter on what is asked.
func passed(l impl.GateLaw, b impl.GateBook, door string, a ask) (impl.GateBook, impl.GateSaid) {
	if !bookIsOk(l, b) || !names.MatchString(door) {
		return impl.GateBook{}, refused(1, 0)
	}
	if !askIsOk(l, a) {
		return impl.GateBook{}, refused(2, 0)
	}
	h := hearingOf(l, b, door, a)
	if said := h.refusal(); said.Code != 0 {
		return b, said
	}
	return h.behind(), impl.GateSaid{Version: b.Now + 1}
}

func (d *dice) portField(name string, kinds texts) impl.GateField {
	f := impl.GateField{Name: name, Kind: impl.GateNumber, Most: pick(d, 9, 30), Default: pick(d, "", "", "1", "2"), Weighs: pick(d, "", d.resource(), d.resource())}
	if d.roll(2) == 0 {
		f = d.dockField(name, kinds)
	}
	f.Fixed = d.roll(5) == 0
	f.Must = f.Must && d.roll(2) == 0
	return f
}

// portLaw is ok, and has objects that weigh much.
func (d *dice) portLaw() impl.GateLaw {
	kinds := texts{"k0", "k1", "k2"}[:1+d.roll(3)]
	for {
		l := impl.GateLaw{Teams: d.teams()}
		for _, kind := range kinds {
			shape := impl.GateShape{Kind: kind}
			for i := range d.roll(impl.GateMaxFields + 1) {
				shape.Fields = append(shape.Fields, d.portField("f"+strconv.Itoa(i), kinds))
			}
			l.Shapes = append(l.Shapes, shape)
		}
		l.Mends = d.mends(l.Shapes)
		if impl.GateLawOk(l) && len(l.Teams) > 0 {
			return l
		}
	}
}

// port is a law, and a book in which root may do everything, ann and bob some things.
func (d *dice) port() (impl.GateLaw, impl.GateBook) {
	l := d.portLaw()
	b := d.dockBook(l, pick(d, 3, 6, 12, impl.GateMaxObjects))
	for i := range b.Objects {
		b.Objects[i].Ending = b.Objects[i].Ending && d.roll(2) == 0
	}
	b.Now += 30
	b.Given = 30
	b.Grants = []impl.GateGrant{{Number: 1, To: "root", Rule: rule("", 1, 2, 3, 4, 5)}}
	for number := range pick(d, 4, 8, 29) {
		if len(b.Grants) < impl.GateMaxGrants && d.roll(8) > 0 {
			b.Grants = append(b.Grants, impl.GateGrant{Number: 2 + number, To: pick(d, "ann", "bob"), By: pick(d, "", "ann", "bob", "root"), Rule: d.portRule(l)})
		}
	}
	if d.roll(8) == 0 {
		b.Now = impl.GateMaxVersion - d.roll(6)
	}
	return l, b
}

func (d *dice) portRule(l impl.GateLaw) impl.GateRule {
	return impl.GateRule{Verbs: d.verbs(), Kind: pick(d, "", "", "k0", "k1"), Team: pick(d, "", "", pick(d, l.Teams...).Name, "ghost"), Prefix: pick(d, "", "", "o", "o1", "p")}
}

// portAsk is mostly one that is ok, and often one that can be done.
func (d *dice) portAsk(l impl.GateLaw, b impl.GateBook) ask {
	a := ask{Who: pick(d, "root", "root", "root", "ann", "bob"), Verb: pick(d, 1, 1, 1, 2, 2, 2, 3, 4, 5, 5, 6)}
	o := d.object(l.Shapes)
	o.Name = "p" + strconv.Itoa(d.roll(90))
	if len(b.Objects) > 0 && (a.Verb != impl.GateMake && d.roll(30) > 0 || d.roll(30) == 0) {
		o = spread(pick(d, b.Objects...))
	}
	shape := shapeOf(l.Shapes, o.Kind)
	a.Kind, a.Name = o.Kind, o.Name
	switch a.Verb {
	case impl.GateMake:
		a.Team, a.Holds = pick(d, l.Teams...).Name, pick(d, nil, nil, texts{"h"}, texts{"f", "g", "h"})
		a.Values = d.portValues(b, shape, o.Values)
	case impl.GateChange:
		a.Seen, a.Values = pick(d, 0, 0, o.Version, b.Now), d.portValues(b, shape, o.Values)
	case impl.GateEnd:
		a.Seen = pick(d, 0, 0, o.Version, b.Now)
	case impl.GateLetGo:
		a.Hold = pick(d, append(o.Holds, "h")...)
	case impl.GateGive:
		a = ask{Who: a.Who, Verb: a.Verb, To: pick(d, "ann", "bob", "cy"), Rule: d.portRule(l)}
	case impl.GateTake:
		a = ask{Who: a.Who, Verb: a.Verb, Number: 1 + d.roll(max(1, b.Given))}
		if len(b.Grants) > 1 && d.roll(6) > 0 {
			a.Number = pick(d, b.Grants[1:]...).Number
		}
	}
	if d.roll(20) == 0 {
		d.spoilAsk(&a)
	}
	return a
}

// portValues are some, a few of which are turned; links mostly name something.
func (d *dice) portValues(b impl.GateBook, shape impl.GateShape, values texts) texts {
	list := slices.Clone(values)
	for i, f := range shape.Fields {
		if f.Kind == impl.GateLink && (list[i] == "" || placeOf(b, thing{f.To, list[i]}) < 0 || d.roll(6) == 0) {
			list[i] = ""
			if len(b.Objects) > 0 && (f.Must || d.roll(4) == 0) {
				list[i] = pick(d, b.Objects...).Name
			}
		}
		if f.Kind == impl.GateNumber && d.roll(3) == 0 {
			list[i] = strconv.Itoa(d.roll(12))
		}
		if d.roll(12) == 0 {
			list[i] = d.value()
		}
	}
	return list
}

func (d *dice) spoilAsk(a *ask) {
	switch d.roll(9) {
	case 0:
		a.Who = pick(d, "", "Root", "eve")
	case 1:
		a.Verb = d.roll(9) - 1
	case 2:
		a.Kind, a.Name = pick(d, "", a.Kind, "k9"), pick(d, "", a.Name, "No")
	case 3:
		a.Team = pick(d, "", "a", "ghost")
	case 4:
		a.Values = append(a.Values, "")
	case 5:
		a.Holds = pick(d, texts{"b", "a"}, texts{"a", "b", "c", "d"}, texts{"a"})
	case 6:
		a.Seen -= d.roll(3)
	case 7:
		a.Hold, a.To = pick(d, "", a.Hold, "H"), pick(d, "", a.To, "H")
	case 8:
		a.Number -= d.roll(3)
	}
}

// Promise 10, and that each ask does what the document says, in many rows of asks; between them doors draw, ticks pass and what ended is swept.
func TestGatePassMadeUp(t *testing.T) {
	t.Parallel()
	d := dice(61)
	codes := map[int][12]int{}
	for range 400 {
		l, b := d.port()
		if !impl.GateBookOk(l, b) || !bookIsOk(l, b) {
			t.Fatalf("not ok: %+v, %+v", l, b)
		}
		for range 40 {
			b = d.meanwhile(l, b)
			a, door := d.portAsk(l, b), pick(&d, "d0", "d1", "d2")
			if d.roll(60) == 0 {
				door = pick(&d, "", "D")
			}
			want, wantSaid := passed(l, b, door, a)
			ahead := spread(b)
			got, said := impl.GatePass(l, ahead, door, a)
			if said != wantSaid || !same(got, want) {
				t.Fatalf("%+v and %+v, not %+v and %+v, of %+v, %+v, %s, %+v", said, got, wantSaid, want, l, b, door, a)
			}
			if !same(whole(ahead), whole(spread(b))) {
				t.Fatalf("%+v: the book was changed", a)
			}
			told := codes[a.Verb]
			told[said.Code]++
			codes[a.Verb] = told
			if said.Code > 2 && !same(got, b) || said.Code != 0 && said.Code < 3 && !same(got, impl.GateBook{}) {
				t.Fatalf("%+v of %+v: %+v became %+v", said, a, b, got)
			}
			if said.Code == 0 {
				b = got
				if !impl.GateBookOk(l, b) || !bookIsOk(l, b) || !boundsHold(l, b) {
					t.Fatalf("%+v: not ok: %+v, %+v", a, l, b)
				}
			}
		}
	}
	for verb, least := range map[int][12]int{
		impl.GateMake:   {1000, 20, 20, 100, 200, 0, 0, 200, 0, 100, 200, 20},
		impl.GateChange: {1000, 20, 20, 50, 200, 200, 100, 50, 50, 20, 20, 20},
		impl.GateEnd:    {300, 20, 20, 20, 50, 50, 50, 0, 0, 0, 0, 20},
		impl.GateLetGo:  {100, 20, 20, 20, 50, 0, 0, 0, 0, 0, 0, 200},
		impl.GateGive:   {300, 20, 20, 0, 100, 0, 0, 0, 0, 0, 0, 20},
		impl.GateTake:   {200, 20, 20, 50, 50, 0, 0, 0, 0, 0, 0, 20},
	} {
		for code := range least {
			if codes[verb][code] < least[code] {
				t.Errorf("too few made-up cases of %d: %v", verb, codes[verb])
				break
			}
		}
	}
}

// meanwhile lets something else happen, mostly nothing.
func (d *dice) meanwhile(l impl.GateLaw, b impl.GateBook) impl.GateBook {
	next := b
	code := 0
	switch d.roll(8) {
	case 0, 1:
		next, code = d.asked(l, b).call(l, b)
	case 2:
		next, code = impl.GateSweep(l, b)
	}
	if code != 0 {
		return b
	}
	return next
}

func TestGatePassOfSpoiltBooks(t *testing.T) {
	d := dice(62)
	counts := map[bool]int{}
	for range 2500 {
		l, b := d.port()
		a := d.portAsk(l, b)
		for range 1 + d.roll(2) {
			d.spoil(&l, &b)
		}
		counts[bookIsOk(l, b)]++
		want, wantSaid := passed(l, b, "d1", a)
		if got, said := impl.GatePass(l, b, "d1", a); said != wantSaid || !same(got, want) {
			t.Fatalf("%+v and %+v, not %+v and %+v, of %+v, %+v, %+v", said, got, wantSaid, want, l, b, a)
		}
		if got, want := impl.GateAskOk(l, a), askIsOk(l, a); got != want {
			t.Fatalf("ok is %v of %+v, %+v", got, l, a)
		}
		who, what := pick(&d, "root", "ann", "bob", "eve"), d.act()
		may := bookIsOk(l, b) && slices.ContainsFunc(b.Grants, func(g impl.GateGrant) bool { return g.To == who && impl.GateAllows(l.Teams, g.Rule, what) })
		if got := impl.GateMay(l, b, who, what); got != may {
			t.Fatalf("may is %v: %s, %+v, of %+v, %+v", got, who, what, l, b)
		}
	}
	if counts[true] < 500 || counts[false] < 500 {
		t.Errorf("too few made-up cases: %v", counts)
	}
}

// onlyVersion is a book in which nothing has happened but that an object has the next version.
func onlyVersion(b impl.GateBook, place int) impl.GateBook {
	next := spread(b)
	next.Now++
	next.Objects[place].Version = next.Now
	return next
}

// Promise 12, of every object of many books, through every door.
func TestGatePassToWhatItIs(t *testing.T) {
	t.Parallel()
	d := dice(63)
	done, refusals := 0, 0
	for range 1500 {
		l, b := d.port()
		for range d.roll(6) {
			if next, said := impl.GatePass(l, b, "d0", d.portAsk(l, b)); said.Code == 0 {
				b = next
			}
		}
		for place, o := range b.Objects {
			a := ask{Who: "root", Verb: impl.GateChange, Kind: o.Kind, Name: o.Name, Values: o.Values, Seen: pick(&d, 0, o.Version)}
			want, wantSaid := onlyVersion(b, place), impl.GateSaid{Version: b.Now + 1}
			if b.Now == impl.GateMaxVersion {
				want, wantSaid = b, refused(11, 0)
			}
			if o.Ending {
				want, wantSaid = b, refused(6, 0)
			}
			got, said := impl.GatePass(l, b, pick(&d, "d0", "d1", "d2", "none"), a)
			if said != wantSaid || !same(got, want) {
				t.Fatalf("%+v and %+v, not %+v and %+v, of %+v, %+v, %+v", said, got, wantSaid, want, l, b, a)
			}
			if said.Code == 0 {
				done++
			} else {
				refusals++
			}
		}
	}
	if done < 5000 || refusals < 1000 {
		t.Errorf("too few made-up cases: %d and %d", done, refusals)
	}
}

// Promise 12, of what was just asked for: what is filled in and mended is what it has by then.
func TestGatePassTwice(t *testing.T) {
	t.Parallel()
	d := dice(64)
	twice, shaped := 0, 0
	for range 9000 {
		l, b := d.port()
		a := d.portAsk(l, b)
		door := pick(&d, "d0", "d1", "d2")
		once, said := impl.GatePass(l, b, door, a)
		if said.Code != 0 || once.Now == impl.GateMaxVersion || a.Verb != impl.GateMake && a.Verb != impl.GateChange {
			continue
		}
		place := placeOf(once, thing{a.Kind, a.Name})
		if !sameTexts(once.Objects[place].Values, a.Values) {
			shaped++
		}
		again := ask{Who: "root", Verb: impl.GateChange, Kind: a.Kind, Name: a.Name, Values: a.Values, Seen: said.Version}
		got, said := impl.GatePass(l, once, pick(&d, door, "none"), again)
		if want := onlyVersion(once, place); said != (impl.GateSaid{Version: want.Now}) || !same(got, want) {
			t.Fatalf("%+v and %+v, not %+v, of %+v, %+v, %+v", said, got, want, l, b, a)
		}
		twice++
	}
	if twice < 1000 || shaped < 200 {
		t.Errorf("too few made-up cases: %d, of which %d were filled in or mended", twice, shaped)
	}
}
