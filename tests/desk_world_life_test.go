package tests

import (
	"slices"
	"strconv"
	"strings"
	"testing"

	"loop.example/wharfdesk/impl"
)

// deskTale is a world that DeskNew, events and calm rounds have led to, and what happened, counted.
type deskTale struct {
	world deskWorld
	// hall is the tale of its Hall.
	hall *hallTale
	// brought are looks by which something was wished for, by the Kind of the entry, and idle those by which nothing was; late is what was told of it by newer books, by Code, and turned are sheets.
	brought [9]int
	idle    int
	late    [17]int
	turned  int
	// rightly are asks that were done, and bounded are ledgers of books behind something that was done.
	rightly, bounded int
}

// deskLead is a tale that has not begun.
func deskLead(h house, n int, list ...desk) *deskTale {
	w := impl.DeskNew(h, n, list)
	return &deskTale{world: w, hall: &hallTale{world: w.Hall}}
}

// become is promises 42 and 64 of a step, or of calm rounds.
func (s *deskTale) become(t *testing.T, what any, next deskWorld, more int) {
	t.Helper()
	before := s.world
	s.world, s.hall.world = next, next.Hall
	if fault := s.hall.fault(before.Hall); fault != "" || !impl.DeskWorldOk(next) || next.Hall.Now != before.Hall.Now+more {
		t.Fatalf("%+v in %+v: %s: %+v", what, before, fault, next)
	}
}

func (s *deskTale) happen(t *testing.T, e deskEvent) {
	t.Helper()
	before := s.world
	s.become(t, e, impl.DeskStep(before, e), 1)
	switch e.Kind {
	case impl.DeskHall:
		s.hall.count(before.Hall, e.Hall)
	case impl.DeskLooks:
		s.looked(t, before, e)
	case impl.DeskTurns:
		s.turned++
	}
}

// looked is promises 59, 61 and 62 of what a desk brought in, by the books that it saw, and by those that all that is fixed leads to.
func (s *deskTale) looked(t *testing.T, before deskWorld, e deskEvent) {
	t.Helper()
	was, is := before.Hall.Rec.Recorders[e.A].Wishes, s.world.Hall.Rec.Recorders[e.A].Wishes
	if len(is) == len(was) {
		s.idle++
		return
	}
	h, of := before.Hall.House, before.Desks[e.B]
	brought, _ := impl.HallRead(is[len(is)-1])
	s.brought[brought.Kind]++
	for i, b := range []twoBooks{impl.HallView(before.Hall, e.A), impl.HallState(h, impl.HallFixed(before.Hall))} {
		next, said := impl.HallDo(h, b, brought)
		if said.Code != 0 && i == 0 || !slices.Contains(deskLateCodes(brought.Kind), said.Code) {
			t.Fatalf("promise 61: %s is told %+v", is[len(is)-1], said)
		}
		if said.Code != 0 {
			next = b
		}
		s.late[said.Code] += i
		checkNothingOfOthers(t, "61", of, brought, b, next)
		for k, other := range before.Desks {
			if sees := deskSeesOf(h, b, other); k != e.B && !same(sees, deskSeesOf(h, next, other)) {
				t.Fatalf("promise 62: by %s, %+v sees something else than %+v", is[len(is)-1], other, sees)
			}
		}
	}
}

// inHall lets something happen in the hall.
func (s *deskTale) inHall(t *testing.T, list ...hallEvent) {
	t.Helper()
	for _, e := range list {
		s.happen(t, deskEvent{Kind: impl.DeskHall, Hall: e})
	}
}

func (s *deskTale) calm(t *testing.T, rounds int) {
	t.Helper()
	s.become(t, rounds, impl.DeskCalm(s.world, rounds), rounds)
}

// round is one of the recorders alone, in which no desk brings anything in.
func (s *deskTale) round(t *testing.T) {
	t.Helper()
	s.inHall(t, hallEvent{Kind: impl.RecEvTick})
	for range len(s.world.Hall.Rec.Flight) {
		s.inHall(t, hallEvent{Kind: impl.RecEvBring})
	}
}

// row is promises 4, 5, and 35 to 40, text by text, of what is fixed.
func (s *deskTale) row(t *testing.T, n *hallRows) {
	t.Helper()
	r := hallRowOf(s.world.Hall.House)
	law := hallLawOf(r.h.Teams)
	for _, text := range impl.HallFixed(s.world.Hall) {
		b := r.last()
		n.put(t, r, text)
		next := r.last()
		if same(b, next) {
			continue
		}
		if e, _ := impl.HallRead(text); e.Kind == impl.HallSlip {
			s.rightly++
			if !hearingOf(law, b.Gate, e.Slip.Door, e.Slip.Ask).may() {
				t.Fatalf("promise 4: %q is done by %+v", text, b.Gate)
			}
		}
		for _, ledger := range next.Gate.Ledgers {
			s.bounded++
			if used := usedBy(law, next.Gate, ledger.Team, ledger.Resource); ledger.Free < 0 || used+drawnFrom(next.Gate, ledger.Team, ledger.Resource)+ledger.Free != ledger.Most {
				t.Fatalf("promise 5: %+v, of which %d is used: %+v", ledger, used, next.Gate)
			}
		}
	}
}

// deskLightSheet says up to so many services that begin with a prefix, mostly ones that are wanted.
func (d *dice) deskLightSheet(h house, prefix string, most int) string {
	text := ""
	for i := range d.roll(most + 1) {
		lines := texts{"team " + pick(d, h.Teams...).Name, "want " + d.number(0, 3)}
		if d.roll(2) == 0 {
			lines = append(lines, "image "+d.number(1, 3), "down "+d.number(0, 2), "over "+d.number(0, 2))
		}
		switch d.roll(14) {
		case 0, 1:
			lines = append(lines, "follow "+pick(d, "5", "20")+" 0 "+d.number(0, 3))
		case 2:
			lines = append(lines, pick(d, "follow 0 0 2", "image 0"))
		case 3:
			lines[0] = pick(d, "team ghost", "needs 2 3")
		}
		text += deskBlock(prefix+pick(d, "", "-x", "-b", "1")+strings.Repeat("y", i), lines...)
	}
	if d.roll(40) == 0 {
		text += "end\n"
	}
	return text
}

// deskCrew are up to so many desks that are apart.
func (d *dice) deskCrew(h house, most int) []desk {
	prefixes := pick(d, texts{"a", "w", "b", "n"}, texts{"a-", "ab", "we", "x"}, texts{"d", "lo", "w", "x"}, texts{"new", "w-", "web", "a"})
	if most == 1 && d.roll(2) == 0 {
		prefixes = texts{""}
	}
	var list []desk
	for i, prefix := range prefixes[:most] {
		sheet := d.deskLightSheet(h, prefix, 2)
		if prefix == "" {
			sheet = d.deskLightSheet(h, pick(d, "a", "w"), 2)
		}
		list = append(list, desk{Who: pick(d, "ann", "ann", "ann", "ann", "ann", "bob"), Door: "d" + strconv.Itoa(1+i), Prefix: prefix, Text: sheet})
	}
	return list
}

// deskDoes is something that a desk does, most often one that has something to do.
func (d *dice) deskDoes(w deskWorld) deskEvent {
	e := deskLooksAt(0, d.roll(len(w.Desks)))
	if d.roll(6) == 0 {
		e.Kind, e.Text = impl.DeskTurns, d.deskLightSheet(w.Hall.House, w.Desks[e.B].Prefix, 2)
		return e
	}
	for range 4 {
		e.A, e.B = d.roll(len(w.Hall.Rec.Recorders)), d.roll(len(w.Desks))
		if _, is := impl.DeskNext(w.Hall.House, impl.HallView(w.Hall, e.A), w.Desks[e.B], 1); is {
			break
		}
	}
	return e
}

// deskLed lets so many things happen to a new world of a house, of so many recorders, with some desks.
func (d *dice) deskLed(t *testing.T, h house, n int, list []desk, events int, weather recWeather) *deskTale {
	t.Helper()
	s := deskLead(h, n, list...)
	s.inHall(t, hallAsksOf(t, d.roll(n), "sea 1 raise b1"))
	for _, team := range h.Teams {
		if d.roll(2) == 0 {
			s.inHall(t, hallAsksOf(t, d.roll(n), "bound 1 "+team.Name+" copies "+d.number(2, 20)))
		}
	}
	if d.roll(2) == 0 {
		s.calm(t, 20)
	}
	for range events {
		switch roll := d.roll(200); {
		case roll < 2:
			s.calm(t, d.roll(12))
		case roll < 16 && len(list) > 0:
			s.happen(t, d.deskDoes(s.world))
		case roll < 24:
			s.inHall(t, d.hallCalls(s.world.Hall))
		default:
			rec := d.recLifeEvent(s.world.Hall.Rec, weather, 1)
			s.inHall(t, hallEvent{Kind: rec.Kind, A: rec.A})
		}
	}
	return s
}

// deskComesTo is what promise 63 asks of a world behind its rounds.
func deskComesTo(w deskWorld) bool {
	return hallComesTo(w.Hall) && impl.DeskEnough(w.Hall.House, impl.HallView(w.Hall, 0), w.Desks)
}

// deskCutOff takes away what hallCutOff does.
func deskCutOff(w deskWorld) deskWorld {
	w.Hall = hallWith(w.Hall, hallCutOff)
	return w
}

// lives is promise 63: it tells behind about how many rounds all was as the sheets say, or -1 where the promise asks for nothing. Slots that nobody will ever know are left out of account: TestHallLeftOver tells why.
func (s *deskTale) lives(t *testing.T) int {
	t.Helper()
	for at := range s.world.Hall.Rec.Recorders {
		s.inHall(t, hallEvent{Kind: impl.RecEvRise, A: at})
	}
	if !hallIsLight(s.world.Hall) {
		return -1
	}
	first := s.world
	s.calm(t, 480)
	if !deskComesTo(s.world) {
		return -1
	}
	end := s.world
	row := impl.HallFixed(end.Hall)
	for _, rounds := range []int{0, 1, 2, 3, 40} {
		s.calm(t, rounds)
		if !impl.DeskDone(deskCutOff(s.world)) || !slices.Equal(impl.HallFixed(s.world.Hall), row) {
			t.Fatalf("%+v became, behind 480 rounds, %+v, and behind %d more %+v", first, end, rounds, s.world)
		}
	}
	if !impl.DeskDone(s.world) {
		s.hall.left++
	}
	rounds := 0
	for ; !impl.DeskDone(deskCutOff(first)); rounds += 8 {
		first = impl.DeskCalm(first, 8)
	}
	return rounds
}

// Promise 63, from worlds in any weather.
func TestDeskLiveness(t *testing.T) {
	t.Parallel()
	d := dice(6301)
	tried, left, most, long := 0, 0, 0, 0
	for i := range 110 {
		h := d.hallTown()
		s := d.deskLed(t, h, 1+i%5, d.deskCrew(h, d.roll(5)), d.roll(500), d.hallWeather())
		if rounds := s.lives(t); rounds >= 0 {
			tried++
			left += s.hall.left
			most, long = max(most, rounds), max(long, len(impl.HallFixed(s.world.Hall)))
		}
	}
	if tried < 40 || left > 2 || most < 30 || long < 20 {
		t.Errorf("too little: %d worlds, %d of them with slots left over, %d rounds at most, %d texts at most", tried, left, most, long)
	}
}

// deskNarrow lets each ledger be bound to just what is to be of it, by what some recorder knows.
func (d *dice) deskNarrow(t *testing.T, s *deskTale) {
	t.Helper()
	h, at := s.world.Hall.House, d.roll(len(s.world.Hall.Rec.Recorders))
	view := impl.HallView(s.world.Hall, at)
	sum := deskSumBy(h, view, s.world.Desks)
	for _, team := range h.Teams {
		for _, resource := range []string{"copies", "service"} {
			if d.roll(3) > 0 {
				most := sum.of(h, impl.GateLedger{Team: team.Name, Resource: resource})
				s.inHall(t, hallAsksOf(t, at, "bound "+strconv.Itoa(1+d.roll(500))+" "+team.Name+" "+resource+" "+strconv.Itoa(most)))
			}
		}
	}
	for range 10 {
		s.round(t)
	}
}

// Promise 63 where there is no more than just enough, and desks have drawn, by what older books told them, what is another one's to have.
func TestDeskLivenessNarrow(t *testing.T) {
	t.Parallel()
	d := dice(6302)
	tried, left, full, drawn := 0, 0, 0, 0
	for i := range 150 {
		h := d.hallTown()
		h.Grants = append(h.Grants[:0:0], impl.GateGrant{Number: 1, To: "ann", Rule: gateRule{Verbs: []int{1, 2, 3, 4, 5}}}, impl.GateGrant{Number: 2, To: "bob", Rule: gateRule{Verbs: []int{1, 2, 3}}})
		s := d.deskLed(t, h, 1+i%5, d.deskCrew(h, 1+d.roll(4)), d.roll(100), d.hallWeather())
		for range 2 {
			d.deskNarrow(t, s)
			for range d.roll(6) {
				s.happen(t, d.deskDoes(s.world))
				rec := d.recLifeEvent(s.world.Hall.Rec, d.hallWeather(), 1)
				s.inHall(t, hallEvent{Kind: rec.Kind, A: rec.A})
				s.round(t)
			}
		}
		d.deskNarrow(t, s)
		for range d.roll(6) {
			if e := d.deskDoes(s.world); e.Kind == impl.DeskLooks {
				s.happen(t, e)
			}
			s.round(t)
		}
		purses := len(impl.HallState(h, impl.HallFixed(s.world.Hall)).Gate.Purses)
		if rounds := s.lives(t); rounds >= 0 {
			tried++
			left += s.hall.left
			drawn += min(1, purses)
			full += len(slices.DeleteFunc(impl.HallView(s.world.Hall, 0).Gate.Ledgers, func(l impl.GateLedger) bool { return l.Free > 0 || l.Most == 0 }))
		}
	}
	if tried < 30 || left > 2 || full < 15 || drawn < 8 {
		t.Errorf("too little: %d worlds, %d of them with slots left over, %d ledgers of which nothing is free, %d with purses to begin with", tried, left, full, drawn)
	}
}

// deskQuarters are ann's four desks, each of which wants one service: what stands behind its Prefix in the name, and the rest.
func deskQuarters(services ...string) []desk {
	list := desksOf("a", "b", "c", "d")
	for i := range list {
		list[i].Text = deskText(list[i].Prefix + services[i%len(services)])
	}
	return list
}

// Promise 63 where much is to be done, and of one ledger all is to be had: all sheets are turned at once, while a berth is to be drained, and one who leads, or another one, falls. In the end there is what the sheets say.
func TestDeskLivenessLaden(t *testing.T) {
	t.Parallel()
	first, most, long := []string{" dev 1,3,0,1,,"}, 0, 0
	for what, c := range map[string]struct{ first, then []string }{
		"another image":    {first, []string{" dev 2,3,0,1,,"}},
		"two over":         {[]string{" dev 1,3,0,1,,", " dev 1,2,0,1,,"}, []string{" dev 2,1,0,2,,", " dev 2,2,0,2,,"}},
		"one down":         {first, []string{" dev 2,3,1,1,,"}},
		"more, and less":   {[]string{" dev 1,1,0,1,,", " dev 1,3,0,1,,"}, []string{" dev 2,3,1,2,,", " dev 2,1,0,1,,"}},
		"turned around":    {[]string{" dev 1,0,0,1,,", " dev 1,3,0,2,,", " lab 1,0,0,1,,", " lab 1,3,0,2,,"}, []string{" lab 1,3,0,2,,", " dev 1,0,0,1,,", " dev 1,3,0,2,,", " lab 1,0,0,1,,"}},
		"by their load":    {first, []string{" dev 1,3,0,1,5,"}},
		"in another team":  {first, []string{" lab 1,3,0,1,,"}},
		"all are to go":    {first, nil},
		"two change names": {first, []string{" dev 1,3,0,1,,", "-x dev 1,3,0,1,,"}},
	} {
		for n := 1; n <= 5; n++ {
			s := deskLead(hallHouse(), n, deskQuarters(c.first...)...)
			for _, text := range []string{"sea 1 raise b1", "sea 1 raise b2", "bound 1 dev copies 16", "bound 1 lab service 4"} {
				s.inHall(t, hallAsksOf(t, 0, text))
			}
			s.calm(t, 100)
			checkDeskDone(t, what+", to begin with", s.world, true)
			for i, of := range desksOf("a", "b", "c", "d") {
				text := ""
				if len(c.then) > 0 {
					text = deskText(of.Prefix + c.then[i%len(c.then)])
				}
				s.happen(t, deskEvent{Kind: impl.DeskTurns, B: i, Text: text})
			}
			s.inHall(t, hallAsksOf(t, n/2, "sea 2 drain b1"))
			for i := range 8 {
				s.happen(t, deskLooksAt(i%n, 3-i%4))
			}
			s.inHall(t, hallEvent{Kind: impl.RecEvFall, A: n - 1 - n/3}, hallEvent{Kind: impl.RecEvFall, A: n / 3})
			rounds := s.lives(t)
			if rounds < 0 || s.hall.left > 0 {
				t.Errorf("%s, of %d: %q", what, n, impl.HallFixed(s.world.Hall))
			}
			s.isAsSaid(t, what)
			most, long = max(most, rounds), max(long, len(impl.HallFixed(s.world.Hall)))
		}
	}
	if most < 100 || long < 50 {
		t.Errorf("too little: %d rounds at most, %d texts at most", most, long)
	}
}

// isAsSaid says that there is what the sheets say, and nothing else.
func (s *deskTale) isAsSaid(t *testing.T, what string) {
	t.Helper()
	b := impl.HallView(s.world.Hall, 0)
	wanted := 0
	for _, of := range s.world.Desks {
		for _, want := range deskPlanBy(s.world.Hall.House, of).Wants {
			wanted++
			o, _ := deskObjectIn(b, want.Name)
			if o.Team != want.Team || !slices.Equal(o.Values, want.Values) || o.Ending {
				t.Errorf("%s: %+v is there, and wanted is %+v", what, o, want)
			}
		}
	}
	if len(b.Gate.Objects) != wanted || len(b.Stew.Services) != wanted || len(b.Gate.Purses) > 0 {
		t.Errorf("%s: %d are wanted, and there is %+v", what, wanted, b)
	}
}

// Promises 4, 5, 35 to 40, 42, 59, 61, 62 and 64, through worlds with falls, losses, doubles and turned orders, in which desks look, and sheets are turned.
func TestDeskPromisesOfWorlds(t *testing.T) {
	t.Parallel()
	d := dice(6201)
	var n hallRows
	var sum deskTale
	sum.hall = &hallTale{}
	for i := range 60 {
		h := d.hallTown()
		s := d.deskLed(t, h, 1+i%5, d.deskCrew(h, i/5%5), 300+d.roll(500), d.hallWeather())
		s.calm(t, 40)
		s.hall.views(t)
		for b := range 12 {
			s.inHall(t, hallEvent{Kind: impl.HallHear, A: d.roll(1 + i%5), B: b})
		}
		s.row(t, &n)
		sum.add(s)
	}
	sum.enough(t)
	n.life.told.isAtLeast(t, map[int]map[int]int{impl.HallSlip: {0: 150, 12: 20}, impl.HallDraw: {0: 30}, impl.HallBack: {0: 10}, impl.HallAct: {0: 80}, impl.HallSea: {0: 80}})
}

func (s *deskTale) add(more *deskTale) {
	s.hall.add(more.hall)
	for kind, many := range more.brought {
		s.brought[kind] += many
	}
	for code, many := range more.late {
		s.late[code] += many
	}
	s.idle, s.turned, s.rightly, s.bounded = s.idle+more.idle, s.turned+more.turned, s.rightly+more.rightly, s.bounded+more.bounded
}

func (s *deskTale) enough(t *testing.T) {
	t.Helper()
	late := 0
	for _, many := range s.late[1:] {
		late += many
	}
	if s.hall.falls < 80 || s.hall.lost < 400 || s.hall.leads < 25 || s.hall.asked < 150 || s.hall.heard < 100 {
		t.Errorf("too little: %d falls, %d lost, %d came to lead, %d asked, %d heard", s.hall.falls, s.hall.lost, s.hall.leads, s.hall.asked, s.hall.heard)
	}
	if s.brought[impl.HallSlip] < 150 || s.brought[impl.HallDraw] < 40 || s.brought[impl.HallBack] < 5 || s.idle < 300 || s.turned < 100 || late < 30 {
		t.Errorf("too little: looks brought %v in, %d brought nothing, %d sheets were turned, late was told %v", s.brought, s.idle, s.turned, s.late)
	}
	if s.rightly < 150 || s.bounded < 500 {
		t.Errorf("too little: %d asks were done, %d ledgers looked at", s.rightly, s.bounded)
	}
}
