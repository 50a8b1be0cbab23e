package tests

import (
	"slices"
	"strconv"
	"testing"

	"loop.example/wharfdesk/impl"
)

// hallReading is the document's chapter on the hall's books, read a second time, by second readings of what it calls.
type hallReading struct {
	law  impl.GateLaw
	next twoBooks
	said impl.GateSaid
}

func hallDoneBy(h house, b twoBooks, e entry) (twoBooks, impl.GateSaid) {
	if !hallIsOk(h, b) {
		return twoBooks{}, refused(1, 0)
	}
	if hallFormAsRead(e) == "" {
		return twoBooks{}, refused(2, 0)
	}
	r := &hallReading{law: hallLawOf(h.Teams), next: spread(b)}
	purses := map[int]int{impl.HallDraw: 0, impl.HallBack: 4, impl.HallTime: 5, impl.HallBound: 6}
	switch e.Kind {
	case impl.HallSlip:
		r.slip(e.Slip)
	case impl.HallSweep:
		r.sweep()
	case impl.HallAct:
		r.act(e.Act)
	case impl.HallSea:
		r.said.Version = r.next.Stew.Now + 1
		r.sea(e.Sea)
	default:
		model := countedOf(r.next.Gate)
		r.said.Code = model.apply(r.law, r.next.Gate, asked{kind: purses[e.Kind], door: e.Door, of: account{e.Team, e.Resource}, amount: e.Amount})
		r.next.Gate = model.bookOf(r.law, r.next.Gate)
	}
	if r.said.Code != 0 {
		return b, r.said
	}
	return r.next, r.said
}

func (r *hallReading) sea(e seaEvent) {
	stew, code := stewSeaBy(r.next.Stew, e)
	if code != 0 && r.said.Code == 0 {
		r.said = refused(14, code)
	}
	r.next.Stew = stew
}

func (r *hallReading) wish(name string) {
	var o impl.GateObject
	for _, other := range r.next.Gate.Objects {
		if other.Name == name {
			o = other
		}
	}
	var old impl.StewService
	for _, s := range r.next.Stew.Services {
		if s.Name == name {
			old = s
		}
	}
	r.sea(stewWishOf(hallServiceOf(o, old)))
}

func (r *hallReading) slip(s slip) {
	fleet := false
	for _, hold := range append(s.Ask.Holds, s.Ask.Hold) {
		fleet = fleet || hold == "fleet"
	}
	if s.Ask.Verb == 1 && !fleet || s.Ask.Verb == 4 && fleet {
		r.said.Code = 15
		return
	}
	r.next.Gate, r.said = committed(r.law, r.next.Gate, s)
	if r.said.Code == 0 && s.Ask.Verb <= 3 {
		r.wish(s.Ask.Name)
	}
}

func (r *hallReading) sweep() {
	var marked texts
	for _, place := range markedOf(r.law, r.next.Gate) {
		marked = append(marked, r.next.Gate.Objects[place].Name)
	}
	r.next.Gate, r.said.Code = swept(r.law, r.next.Gate)
	if r.said.Code == 0 {
		for _, name := range marked {
			r.wish(name)
		}
	}
}

func (r *hallReading) act(a stewardAct) {
	stew, code := stewAppliedBy(r.next.Stew, a)
	r.next.Stew, r.said.Version = stew, stew.Now
	if code != 0 {
		r.said = refused(14, code)
		return
	}
	if !a.Drop {
		return
	}
	if r.next.Gate.Now == 1000000 {
		r.said = refused(11, 0)
		return
	}
	r.next.Gate.Now++
	for i := range r.next.Gate.Objects {
		o := &r.next.Gate.Objects[i]
		if o.Name != a.Service {
			continue
		}
		var left texts
		for _, hold := range o.Holds {
			if hold != "fleet" {
				left = append(left, hold)
			}
		}
		o.Holds, o.Version = left, r.next.Gate.Now
	}
}

// hallNames are of services.
var hallNames = texts{"a", "a-b", "ab", "b", "db", "log", "w", "w-1", "web", "x"}

func (d *dice) hallRule(h house) gateRule {
	return gateRule{Verbs: d.verbs(), Kind: pick(d, "", "", "service", "berth"), Team: pick(d, "", "", pick(d, h.Teams...).Name), Prefix: pick(d, "", "", "a", "w")}
}

// hallTown is a house that is ok. Most of the time ann may do everything there.
func (d *dice) hallTown() house {
	h := house{Teams: d.teams()}
	for len(h.Teams) == 0 || !impl.GateTeamsOk(h.Teams) {
		h.Teams = d.teams()
	}
	for i := range 1 + d.roll(4) {
		h.Grants = append(h.Grants, impl.GateGrant{Number: i + 1, To: pick(d, "ann", "bob", "cy"), Rule: d.hallRule(h)})
	}
	if d.roll(4) > 0 {
		h.Grants[0].To, h.Grants[0].Rule = "ann", gateRule{Verbs: []int{1, 2, 3, 4, 5}}
	}
	return h
}

// hallValues are those of a service, mostly ones that fit.
func (d *dice) hallValues(of ...string) texts {
	list := texts{d.number(1, 4), d.number(0, 5), pick(d, "", "0", "1", "2"), pick(d, "", "1", "1", "2", "3"), pick(d, "", "", "1", "7", "20"), pick(d, append(of, "", "", "")...)}
	if d.roll(12) == 0 {
		list[d.roll(6)] = pick(d, "", "0", "11", "01", "a", "1001", "ghost")
	}
	return list
}

func (d *dice) number(least, most int) string {
	return strconv.Itoa(least + d.roll(most-least+1))
}

// hallBooksOf are ok in a house that is.
func (d *dice) hallBooksOf(h house) twoBooks {
	b := twoBooks{Gate: impl.GateBook{Now: 30 + d.roll(20), Tick: d.roll(20)}, Stew: impl.StewBook{Now: 10 + d.roll(30)}}
	b.Gate.Grants, b.Gate.Given = spread(h.Grants), len(h.Grants)+d.roll(4)
	for number := len(h.Grants) + 1; number <= b.Gate.Given; number++ {
		b.Gate.Grants = append(b.Gate.Grants, impl.GateGrant{Number: number, To: pick(d, "bob", "cy"), By: pick(d, "ann", "bob"), Rule: d.hallRule(h)})
	}
	for _, name := range []string{"b1", "b2", "b3"} {
		if d.roll(3) > 0 {
			b.Stew.Berths = append(b.Stew.Berths, impl.StewBerth{Name: name, Drain: d.roll(3) == 0})
		}
	}
	d.hallFill(h, &b)
	d.hallLedgers(h, &b.Gate)
	switch d.roll(12) {
	case 0, 1:
		b.Gate.Now = 999998 + d.roll(3)
	case 2, 3:
		d.stewAtEnds(&b.Stew)
	case 4:
		b.Gate.Now, b.Stew.Now = 999999+d.roll(2), 999999+d.roll(2)
	}
	return b
}

// hallFill puts objects, and the services that they ask for, into books.
func (d *dice) hallFill(h house, b *twoBooks) {
	law := hallLawOf(h.Teams)
	var there texts
	few := pick(d, 2, 3, 3, 30)
	for _, name := range hallNames {
		if d.roll(few) > 0 {
			there = append(there, name)
		}
	}
	for _, name := range there {
		o := impl.GateObject{Kind: "service", Name: name, Team: pick(d, h.Teams...).Name, Values: d.hallValues(there...), Ending: d.roll(few) == 0, Version: 1 + d.roll(30)}
		o = impl.GateShaped(law.Shapes, law.Mends, o)
		if code, _ := impl.GateCheck(law.Shapes, o); code != 0 || !slices.Contains(append(there, ""), o.Values[5]) {
			o.Values = texts{"1", "2", "0", "1", "", ""}
		}
		if held := !o.Ending || d.roll(2) == 0; held && len(b.Stew.Services) < 8 {
			o.Holds = pick(d, texts{"fleet"}, texts{"fleet"}, texts{"audit", "fleet"}, texts{"fleet", "zoo"})
			d.hallServe(o, &b.Stew)
		} else {
			o.Ending, o.Holds = true, pick(d, nil, nil, texts{"audit"})
		}
		b.Gate.Objects = append(b.Gate.Objects, o)
	}
}

func (d *dice) hallServe(o impl.GateObject, b *impl.StewBook) {
	s := hallServiceOf(o, impl.StewService{Want: d.roll(5), Load: d.roll(60)})
	s.Version, s.Next = 1+d.roll(b.Now), 1+d.roll(7)
	if s.Per > 0 {
		s.Cool = d.roll(4)
	}
	for number := 1; number < s.Next; number++ {
		if d.roll(3) > 0 && (!s.Gone || d.roll(2) == 0) {
			b.Copies = append(b.Copies, d.stewCopy(s, number, *b))
		}
	}
	b.Services = append(b.Services, s)
}

func (d *dice) hallLedgers(h house, b *impl.GateBook) {
	law := hallLawOf(h.Teams)
	for _, team := range h.Teams {
		for _, resource := range []string{"copies", "gold", "service"} {
			if d.roll(3) > 0 || len(b.Ledgers) == 10 {
				continue
			}
			for _, door := range []string{"d1", "d2"} {
				if d.roll(3) > 0 && len(b.Purses) < 24 {
					b.Purses = append(b.Purses, impl.GatePurse{Door: door, Team: team.Name, Resource: resource, Amount: 1 + d.roll(9), Until: b.Tick + d.roll(11)})
				}
			}
			ledger := impl.GateLedger{Team: team.Name, Resource: resource, Free: d.roll(9)}
			ledger.Most = ledger.Free + usedBy(law, *b, team.Name, resource) + drawnFrom(*b, team.Name, resource)
			b.Ledgers = append(b.Ledgers, ledger)
		}
	}
	inOrder(b)
}

// hallAskFor is mostly one that can be done in books.
func (d *dice) hallAskFor(h house, b twoBooks) ask {
	a := ask{Who: pick(d, "ann", "ann", "ann", "ann", "bob", "cy"), Verb: pick(d, 1, 1, 1, 1, 2, 2, 2, 3, 3, 4, 5, 6), Kind: "service"}
	there := texts{"ghost"}
	for _, o := range b.Gate.Objects {
		there = append(there, o.Name)
	}
	o := impl.GateObject{Name: "ghost"}
	if len(b.Gate.Objects) > 0 {
		o = spread(pick(d, b.Gate.Objects...))
	} else if a.Verb <= impl.GateLetGo {
		a.Verb = impl.GateMake
	}
	a.Name = o.Name
	switch a.Verb {
	case impl.GateMake:
		a.Name = pick(d, hallNames...)
		if d.roll(4) > 0 && slices.Contains(there, a.Name) {
			a.Name = "new"
		}
		a.Team, a.Values = pick(d, h.Teams...).Name, d.hallValues(there...)
		a.Holds = pick(d, texts{"fleet"}, texts{"fleet"}, texts{"fleet"}, texts{"audit", "fleet"}, texts{"fleet", "zoo"}, nil, texts{"audit"}, texts{"zoo", "fleet"})
	case impl.GateChange:
		a.Values, a.Seen = d.hallValues(there...), pick(d, 0, 0, o.Version, b.Gate.Now)
	case impl.GateEnd:
		a.Seen = pick(d, 0, 0, o.Version, b.Gate.Now)
	case impl.GateLetGo:
		a.Hold = pick(d, append(o.Holds, "audit", "zoo")...)
	case impl.GateGive:
		return ask{Who: a.Who, Verb: a.Verb, To: pick(d, "ann", "bob", "cy"), Rule: d.hallRule(h)}
	case impl.GateTake:
		return ask{Who: a.Who, Verb: a.Verb, Number: d.hallTaken(b.Gate)}
	}
	return a
}

// hallTaken is mostly the Number of a gift: without the house's own grants little happens.
func (d *dice) hallTaken(b impl.GateBook) int {
	gifts := slices.DeleteFunc(spread(b.Grants), func(g impl.GateGrant) bool { return g.By == "" && d.roll(30) > 0 })
	if len(gifts) > 0 {
		return pick(d, gifts...).Number
	}
	return 1000 + d.roll(9)
}

// hallSlipFor is what a door makes of an ask that sees these books, or, where it makes none, a slip that it would not make.
func (d *dice) hallSlipFor(h house, view twoBooks) slip {
	door, a := pick(d, "d1", "d1", "d2", "d3"), d.hallAskFor(h, view)
	s, said := impl.GateSlipOf(hallLawOf(h.Teams), view.Gate, door, a)
	if said.Code == 0 && d.roll(8) > 0 {
		return s
	}
	s = slip{Door: door, Ask: a, Given: view.Gate.Given}
	if d.roll(4) == 0 {
		s.Wants = []want{on("service", pick(d, hallNames...), pick(d, 0, 1+d.roll(30)))}
	}
	return s
}

func (d *dice) hallActFor(view twoBooks) stewardAct {
	acts := impl.StewAsk(1+d.roll(6), view.Stew)
	a := d.stewAct(view.Stew)
	if len(acts) > 0 && d.roll(3) > 0 {
		a = pick(d, acts...)
	}
	if view.Stew.Now > 0 && d.roll(6) == 0 {
		d.stewSpoilAct(view.Stew, &a)
	}
	return a
}

func (d *dice) hallSeaFor(b twoBooks) seaEvent {
	service := impl.StewService{Name: "web"}
	if len(b.Stew.Services) > 0 {
		service = pick(d, b.Stew.Services...)
	}
	switch d.roll(8) {
	case 0, 1:
		if len(b.Stew.Copies) > 0 {
			c := pick(d, b.Stew.Copies...)
			return stewFailOf(c.Service, c.Number)
		}
		return stewFailOf(service.Name, 1)
	case 2:
		return stewSinkOf(pick(d, "b1", "b2", "b3", "b4"))
	case 3:
		return stewRaiseOf(pick(d, "b1", "b2", "b3", "b4", "b5", "b6", "b7"), d.roll(3) == 0)
	case 4:
		return stewLoadOf(service.Name, pick(d, d.roll(60), d.roll(60), 1000001))
	}
	return stewTickOf()
}

// hallEntryFor is brought in by somebody who sees a view.
func (d *dice) hallEntryFor(h house, view twoBooks) entry {
	e := entry{Kind: pick(d, 1, 1, 1, 1, 1, 1, 1, 1, 1, 2, 2, 3, 4, 5, 6, 6, 7, 7, 7, 7, 8, 8), Number: 1 + d.roll(900)}
	switch e.Kind {
	case impl.HallSlip:
		e.Slip = d.hallSlipFor(h, view)
	case impl.HallDraw, impl.HallBack, impl.HallBound:
		e.Team, e.Resource = pick(d, h.Teams...).Name, pick(d, "copies", "copies", "copies", "service", "gold")
		if len(view.Gate.Ledgers) > 0 && d.roll(2) == 0 {
			ledger := pick(d, view.Gate.Ledgers...)
			e.Team, e.Resource = ledger.Team, ledger.Resource
		}
		if e.Kind != impl.HallBound {
			e.Door = pick(d, "d1", "d1", "d2", "d3")
		}
		if e.Kind != impl.HallBack {
			e.Amount = pick(d, d.roll(8), d.roll(30), d.roll(80))
		}
	case impl.HallAct:
		e.Act = d.hallActFor(view)
	case impl.HallSea:
		e.Sea = d.hallSeaFor(view)
	}
	if d.roll(30) == 0 {
		d.hallSpoil(&e)
	}
	return e
}

// hallSpoilBooks turns one thing of books, which may still be ok then.
func (d *dice) hallSpoilBooks(b *twoBooks) {
	if len(b.Gate.Objects) == 0 || len(b.Stew.Services) == 0 {
		return
	}
	o := &b.Gate.Objects[d.roll(len(b.Gate.Objects))]
	s := &b.Stew.Services[d.roll(len(b.Stew.Services))]
	switch d.roll(8) {
	case 0:
		o.Holds = pick(d, nil, texts{"fleet"}, texts{"audit"}, texts{"a", "fleet"})
	case 1:
		o.Ending = !o.Ending
	case 2:
		s.Gone = !s.Gone
	case 3:
		*pick(d, &s.Image, &s.Want, &s.Down, &s.Over, &s.Per, &s.Least, &s.Most, &s.Load) = d.roll(6)
	case 4:
		*pick(d, &s.Version, &s.Next, &s.Cool) = d.roll(6)
	case 5:
		o.Values[d.roll(6)] = pick(d, "", "0", "1", "2", "web")
	case 6:
		d.stewSpoil(&b.Stew)
	default:
		*pick(d, &b.Gate.Now, &b.Gate.Given, &b.Gate.Tick, &o.Version) += pick(d, -1, 1)
	}
}

// hallTold counts what was told, by Kind and Code; of 14 also by Place.
type hallTold struct {
	codes  [9][16]int
	places [9][8]int
}

func (n *hallTold) add(kind int, said impl.GateSaid) {
	if kind < 1 || kind > 8 {
		return
	}
	n.codes[kind][said.Code]++
	if said.Code == 14 {
		n.places[kind][said.Place]++
	}
}

func (n *hallTold) isAtLeast(t *testing.T, least map[int]map[int]int) {
	t.Helper()
	for kind, codes := range least {
		for code, many := range codes {
			if n.codes[kind][code] < many {
				t.Errorf("Kind %d: the Code %d was told %d times", kind, code, n.codes[kind][code])
			}
		}
	}
}

// What is told of entries, and what they come to, by a second reading.
func TestHallDoMadeUp(t *testing.T) {
	t.Parallel()
	d := dice(310)
	var n hallTold
	spoilt := 0
	for i := range 6000 {
		h := d.hallTown()
		b := d.hallBooksOf(h)
		view := b
		if d.roll(2) == 0 {
			for range d.roll(4) {
				if next, said := impl.HallDo(h, b, d.hallEntryFor(h, b)); said.Code == 0 {
					b = next
				}
			}
		}
		e := d.hallEntryFor(h, view)
		if d.roll(12) == 0 {
			d.hallSpoilBooks(&b)
		}
		isOk := hallIsOk(h, b)
		if impl.HallOk(h, b) != isOk {
			t.Fatalf("books %d are ok: %v: %+v", i, !isOk, b)
		}
		if !isOk {
			spoilt++
		}
		want, said := hallDoneBy(h, b, e)
		checkDo(t, "made up", h, b, e, want, said)
		if t.Failed() {
			t.Fatalf("entry %d: %+v in %+v", i, e, b)
		}
		n.add(e.Kind, said)
	}
	n.isAtLeast(t, map[int]map[int]int{
		impl.HallSlip:  {0: 200, 1: 50, 2: 50, 3: 30, 4: 200, 5: 40, 6: 40, 7: 10, 9: 50, 10: 30, 11: 40, 12: 150, 14: 20, 15: 100},
		impl.HallDraw:  {0: 50, 1: 10, 2: 100, 3: 100},
		impl.HallBack:  {0: 40, 1: 10, 2: 90},
		impl.HallBound: {0: 80, 1: 10, 2: 1, 3: 50, 4: 1},
		impl.HallTime:  {0: 100, 1: 5, 2: 1},
		impl.HallSweep: {0: 150, 1: 15, 2: 80, 3: 15, 14: 10},
		impl.HallAct:   {0: 300, 1: 30, 2: 15, 11: 1, 14: 150},
		impl.HallSea:   {0: 150, 1: 15, 2: 5, 14: 80},
	})
	for kind, places := range map[int][]int{impl.HallSlip: {2, 7}, impl.HallSweep: {7}, impl.HallAct: {2, 3, 4, 5, 6, 7}, impl.HallSea: {2, 3, 7}} {
		for _, place := range places {
			if n.places[kind][place] < 3 {
				t.Errorf("Kind %d: 14 with Place %d was told %d times", kind, place, n.places[kind][place])
			}
		}
	}
	if spoilt < 150 {
		t.Errorf("%d were not ok", spoilt)
	}
}
