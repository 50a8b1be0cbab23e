package tests

import (
	"slices"
	"strconv"
	"testing"

	"loop.example/wharfdesk/impl"
)

// hallTale is a world that HallNew, events and calm rounds have led to, and what happened, counted.
type hallTale struct {
	world hallWorld
	life  hallLife
	// left is how often all was done but for slots that nobody will ever know.
	left int
	// falls are recorders that fell, lost are messages that were, and leads are those who came to lead.
	falls, lost, leads int
	// asked and again are texts that were asked, and asked once more; wished are those that stewards brought; heard are answers, of which refused have a Code; late are texts that were asked behind an answer.
	asked, again, wished, heard, refused, late int
}

// hallLead is a tale that has not begun.
func hallLead(h house, n int) *hallTale {
	return &hallTale{world: impl.HallNew(h, n)}
}

// fault is empty by promises 42 and 45.
func (s *hallTale) fault(before hallWorld) string {
	w := s.world
	was, row := impl.HallFixed(before), impl.HallFixed(w)
	switch {
	case !impl.HallWorldOk(w):
		return "not ok"
	case !impl.HallRight(w):
		return "not right"
	case len(row) < len(was) || !slices.Equal(row[:len(was)], was):
		return "what was fixed is not there"
	}
	for _, r := range w.Rec.Recorders {
		if book := impl.RecBook(r); len(book) > len(row) || !slices.Equal(row[:len(book)], book) {
			return "somebody knows something else"
		}
	}
	return ""
}

func (s *hallTale) happen(t *testing.T, e hallEvent) {
	t.Helper()
	before := s.world
	s.world = impl.HallStep(before, e)
	if fault := s.fault(before); fault != "" || s.world.Now != before.Now+1 {
		t.Fatalf("%+v in %+v: %s: %+v", e, before, fault, s.world)
	}
	s.count(before, e)
}

func (s *hallTale) count(before hallWorld, e hallEvent) {
	w := s.world
	for at, r := range w.Rec.Recorders {
		switch was := before.Rec.Recorders[at]; {
		case was.Up && !r.Up:
			s.falls++
		case !was.Lead && r.Lead:
			s.leads++
		case e.Kind == impl.HallSteward:
			s.wished += len(r.Wishes) - len(was.Wishes)
		case e.Kind == impl.HallAsks && len(w.Asked) == len(before.Asked):
			s.again += len(r.Wishes) - len(was.Wishes)
		}
	}
	if e.Kind == impl.RecEvLose {
		s.lost += len(before.Rec.Flight) - len(w.Rec.Flight)
	}
	s.asked += len(w.Asked) - len(before.Asked)
	for b, a := range before.Asked {
		if w.Asked[b].To > a.To {
			s.heard++
			s.refused += min(1, w.Asked[b].Said.Code)
		}
	}
	for _, a := range w.Asked[len(before.Asked):] {
		if slices.ContainsFunc(before.Asked, func(b impl.HallAsked) bool { return b.To > 0 && b.To < a.From }) {
			s.late++
		}
	}
}

func (s *hallTale) calm(t *testing.T, rounds int) {
	t.Helper()
	before := s.world
	s.world = impl.HallCalm(before, rounds)
	if fault := s.fault(before); fault != "" || s.world.Now != before.Now+rounds {
		t.Fatalf("%d rounds of %+v: %s: %+v", rounds, before, fault, s.world)
	}
}

// views is promises 35, 37 and 38, of what is to be seen at each recorder.
func (s *hallTale) views(t *testing.T) {
	t.Helper()
	for at := range s.world.Rec.Recorders {
		view := impl.HallView(s.world, at)
		if !impl.HallOk(s.world.House, view) || !hallIsOk(s.world.House, view) {
			t.Fatalf("at %d: %+v is not ok: %+v", at, view, s.world)
		}
		s.life.rights(t, s.world.House, view)
		s.life.bounds(t, s.world.House, view)
	}
}

// row is promises 35 to 40, text by text, of what is fixed.
func (s *hallTale) row(t *testing.T, n *hallRows) {
	t.Helper()
	r := hallRowOf(s.world.House)
	for _, text := range impl.HallFixed(s.world) {
		n.put(t, r, text)
	}
}

// hallSmall is an ask for no more than a few copies.
func (d *dice) hallSmall(a ask) ask {
	if len(a.Values) == 6 {
		a.Values[1], a.Values[3] = d.number(0, 3), pick(d, "", "1", "2")
	}
	return a
}

// hallCalls is somebody's ask, or what a steward or somebody who waits does.
func (d *dice) hallCalls(w hallWorld) hallEvent {
	e := hallEvent{Kind: pick(d, 11, 12, 12, 12, 13, 13, 13, 14, 14, 14), A: d.roll(len(w.Rec.Recorders))}
	view := impl.HallView(w, e.A)
	switch e.Kind {
	case impl.HallAsks:
		e.Entry = d.hallEntryFor(w.House, view)
		e.Entry.Slip.Ask = d.hallSmall(e.Entry.Slip.Ask)
		if len(w.Asked) > 0 && d.roll(2) == 0 {
			e.Entry, _ = impl.HallRead(pick(d, w.Asked...).Text)
		}
	case impl.HallThrough:
		e.B, e.Door = 1+d.roll(500000), pick(d, "d1", "d1", "d1", "d2")
		for range 4 {
			e.Ask = d.hallSmall(d.hallAskFor(w.House, view))
			if _, said := impl.HallSlipOf(w.House, view, e.B, e.Door, e.Ask); said.Code == 0 {
				break
			}
		}
	case impl.HallSteward:
		e.B = d.hallStewardFor(w.House, view)
	case impl.HallHear:
		e.B = d.roll(12)
	}
	return e
}

// hallLed lets so many things happen to a new world of a house, of so many recorders.
func (d *dice) hallLed(t *testing.T, h house, n, events int, weather recWeather) *hallTale {
	t.Helper()
	s := hallLead(h, n)
	s.happen(t, hallAsksOf(t, d.roll(n), "sea 1 raise b1"))
	if d.roll(3) == 0 {
		d.hallBinds(t, s)
	}
	if d.roll(2) == 0 {
		s.calm(t, 20)
	}
	for range events {
		switch roll := d.roll(200); {
		case roll < 2:
			s.calm(t, d.roll(12))
		case roll == 2:
			s.views(t)
		case roll < 22:
			s.happen(t, d.hallCalls(s.world))
		default:
			rec := d.recLifeEvent(s.world.Rec, weather, 1)
			s.happen(t, hallEvent{Kind: rec.Kind, A: rec.A})
		}
	}
	return s
}

// hallBinds lets a team be bound to some copies, all of which are drawn, and a service ask for just so many.
func (d *dice) hallBinds(t *testing.T, s *hallTale) {
	t.Helper()
	at, team, most := d.roll(len(s.world.Rec.Recorders)), pick(d, s.world.House.Teams...).Name, 2+d.roll(3)
	s.happen(t, hallAsksOf(t, at, "bound 1 "+team+" copies "+strconv.Itoa(most)))
	s.happen(t, hallAsksOf(t, at, "draw 1 d1 "+team+" copies "+strconv.Itoa(most)))
	s.calm(t, 16)
	s.happen(t, hallThroughOf(at, 1, asksMake("w", team, texts{"fleet"}, "1", strconv.Itoa(most-1), "", "", "", "")))
}

// hallWeather is one in which no texts are wished for but those of the hall.
func (d *dice) hallWeather() recWeather {
	weather := d.recWeather()
	if d.roll(3) == 0 {
		weather = recTrouble(d)
	}
	weather.wish = 0
	return weather
}

// Promises 35, 37, 38, 42 and 45, through worlds with falls, losses, doubles and turned orders.
func TestHallPromisesOfWorlds(t *testing.T) {
	t.Parallel()
	d := dice(4201)
	var n hallRows
	var sum hallTale
	texts, far := 0, 0
	for i := range 60 {
		s := d.hallLed(t, d.hallTown(), 1+i%5, 300+d.roll(700), d.hallWeather())
		s.calm(t, 40)
		s.views(t)
		for b := range 12 {
			s.happen(t, hallEvent{Kind: impl.HallHear, A: d.roll(1 + i%5), B: b})
		}
		s.row(t, &n)
		sum.add(s)
		texts += len(impl.HallFixed(s.world))
		if len(impl.HallFixed(s.world)) > 15 && i%5 > 1 {
			far++
		}
	}
	sum.enough(t)
	if texts < 500 || far < 5 {
		t.Errorf("too little: %d texts, %d worlds that got far", texts, far)
	}
	n.life.told.isAtLeast(t, map[int]map[int]int{impl.HallSlip: {0: 150, 10: 1, 12: 60, 15: 1}, impl.HallSweep: {0: 8}, impl.HallAct: {0: 80, 14: 5}, impl.HallSea: {0: 80}})
}

func (s *hallTale) add(more *hallTale) {
	s.falls, s.lost, s.leads = s.falls+more.falls, s.lost+more.lost, s.leads+more.leads
	s.asked, s.again, s.wished = s.asked+more.asked, s.again+more.again, s.wished+more.wished
	s.heard, s.refused, s.late = s.heard+more.heard, s.refused+more.refused, s.late+more.late
	s.life.gifts, s.life.full = s.life.gifts+more.life.gifts, s.life.full+more.life.full
}

func (s *hallTale) enough(t *testing.T) {
	t.Helper()
	if s.falls < 100 || s.lost < 500 || s.leads < 30 {
		t.Errorf("too little: %d falls, %d lost, %d came to lead", s.falls, s.lost, s.leads)
	}
	if s.asked < 300 || s.again < 20 || s.wished < 40 || s.heard < 200 || s.refused < 50 || s.late < 100 {
		t.Errorf("too little: %d asked, %d again, %d wished for by stewards, %d heard, %d of them refused, %d asked behind an answer", s.asked, s.again, s.wished, s.heard, s.refused, s.late)
	}
	if s.life.gifts < 100 || s.life.full < 10 {
		t.Errorf("too little: %d gifts, %d ledgers of which no copy is left", s.life.gifts, s.life.full)
	}
}

// hallIsLight says that nobody has more than 20 slots, and more than 20 wishes.
func hallIsLight(w hallWorld) bool {
	return all(w.Rec.Recorders, func(r impl.Recorder) bool {
		return len(r.Disk.Slots) <= 20 && len(r.Safe.Slots) <= 20 && len(r.Wishes) <= 20
	})
}

// hallComesTo is what promise 44 asks of a world behind its rounds.
func hallComesTo(w hallWorld) bool {
	b := impl.HallView(w, 0)
	return all(w.Rec.Recorders, func(r impl.Recorder) bool { return len(r.Disk.Slots) < 120 }) && len(b.Stew.Services) <= 4 &&
		slices.ContainsFunc(b.Stew.Berths, func(berth impl.StewBerth) bool { return !berth.Drain }) &&
		all(b.Stew.Services, func(s impl.StewService) bool { return s.Want <= 3 && s.Most <= 3 && s.Over <= 2 })
}

// lives is promise 44: it tells behind how many rounds all was done, or -1 where the promise asks for nothing. Slots that nobody will ever know are left out of account: TestHallLeftOver tells why.
func (s *hallTale) lives(t *testing.T) int {
	t.Helper()
	for at := range s.world.Rec.Recorders {
		s.happen(t, hallEvent{Kind: impl.RecEvRise, A: at})
	}
	if !hallIsLight(s.world) {
		return -1
	}
	first := s.world
	s.calm(t, 480)
	if !hallComesTo(s.world) {
		return -1
	}
	end := s.world
	row := impl.HallFixed(end)
	for _, rounds := range []int{0, 1, 2, 3, 40} {
		s.calm(t, rounds)
		if !impl.HallDone(hallWith(s.world, hallCutOff)) || !slices.Equal(impl.HallFixed(s.world), row) {
			t.Fatalf("%+v became, behind 480 rounds, %+v, and behind %d more %+v", first, end, rounds, s.world)
		}
	}
	if !impl.HallDone(s.world) {
		s.left++
	}
	rounds := 0
	for ; !impl.HallDone(hallWith(first, hallCutOff)); rounds++ {
		first = impl.HallCalm(first, 1)
	}
	return rounds
}

// hallCutOff takes the slots away that nobody will ever know: behind all that the one has who leads, of an older ballot.
func hallCutOff(w *hallWorld) {
	at := slices.IndexFunc(w.Rec.Recorders, func(r impl.Recorder) bool { return r.Lead })
	if at < 0 {
		return
	}
	leader := w.Rec.Recorders[at]
	for i := range w.Rec.Recorders {
		r := &w.Rec.Recorders[i]
		for last := len(r.Disk.Slots) - 1; last >= len(leader.Disk.Slots) && r.Disk.Slots[last].Ballot < leader.Ballot; last-- {
			r.Disk.Slots = r.Disk.Slots[:last]
		}
	}
}

// Promise 44, from worlds in any weather.
func TestHallLiveness(t *testing.T) {
	t.Parallel()
	d := dice(4401)
	tried, left, most, long := 0, 0, 0, 0
	for i := range 120 {
		s := d.hallLed(t, d.hallTown(), 1+i%5, d.roll(500), d.hallWeather())
		if rounds := s.lives(t); rounds >= 0 {
			tried++
			left += s.left
			most, long = max(most, rounds), max(long, len(impl.HallFixed(s.world)))
		}
	}
	if tried < 90 || left > 2 || most < 25 || long < 20 {
		t.Errorf("too little: %d worlds, %d of them with slots left over, %d rounds at most, %d texts at most", tried, left, most, long)
	}
}

// What one alone has taken, of one who leads and falls at once, is left over where the next one comes to lead by the promises of others: nobody leads with it, and nobody takes it away. So the one that has it does not know all of its slots, and by the words of chapter 35 all is not done, though nothing is left to do; until something comes to stand in that place.
func TestHallLeftOver(t *testing.T) {
	s := hallLead(hallHouse(), 3)
	s.happen(t, hallAsksOf(t, 0, "sea 1 raise b1"))
	s.calm(t, 30)
	s.happen(t, hallAsksOf(t, 0, "time 1"))
	s.happen(t, hallEvent{Kind: impl.RecEvTick})
	takes := slices.IndexFunc(s.world.Rec.Flight, func(m impl.RecMessage) bool { return m.Kind == impl.RecAccept && m.To == 3 })
	s.happen(t, hallEvent{Kind: impl.RecEvBring, A: takes})
	for range len(s.world.Rec.Flight) {
		s.happen(t, hallEvent{Kind: impl.RecEvLose})
	}
	s.happen(t, hallEvent{Kind: impl.RecEvFall})
	s.happen(t, hallEvent{Kind: impl.RecEvRise})
	for range 2 {
		s.calm(t, 480)
		leader, third := s.world.Rec.Recorders[0], s.world.Rec.Recorders[2]
		if !leader.Lead || len(leader.Disk.Slots) != 1 || third.Disk.Known != 1 || !slices.Equal(recTexts(third.Disk.Slots), texts{"sea 1 raise b1", "time 1"}) {
			t.Fatalf("%+v", s.world)
		}
		checkDone(t, "left over", s.world, false)
		checkDone(t, "cut off", hallWith(s.world, hallCutOff), true)
	}
	s.happen(t, hallAsksOf(t, 1, "time 2"))
	s.calm(t, 20)
	checkDone(t, "in its place", s.world, true)
	checkFixed(t, "in its place", s.world, texts{"sea 1 raise b1", "time 2"})
	s.happen(t, hallAsksOf(t, 0, "time 1"))
	s.calm(t, 20)
	checkFixed(t, "asked once more", s.world, texts{"sea 1 raise b1", "time 2", "time 1"})
}

// hallLadenFleet is a world in which four services, each of three copies, are ready, of so many recorders; values are those of each service.
func hallLadenFleet(t *testing.T, n int, values ...string) *hallTale {
	t.Helper()
	s := hallLead(hallHouse(), n)
	for _, text := range []string{"sea 1 raise b1", "sea 1 raise b2"} {
		s.happen(t, hallAsksOf(t, 0, text))
	}
	for i := range 4 {
		s.happen(t, hallThroughOf(0, 1, asksMake("s"+strconv.Itoa(i), "dev", texts{"fleet"}, values...)))
	}
	s.calm(t, 60)
	return s
}

// Promise 44 where much is to be done: all services turn at once to what else they are to be, while a berth is to be drained, and one who leads, or another one, falls.
func TestHallLivenessLaden(t *testing.T) {
	t.Parallel()
	first := texts{"1", "3", "", "1", "", ""}
	most, long := 0, 0
	for what, c := range map[string]struct{ first, then texts }{
		"one over":          {first, texts{"2", "3", "", "1", "", ""}},
		"two over":          {first, texts{"2", "3", "", "2", "", ""}},
		"one down":          {first, texts{"2", "3", "1", "1", "", ""}},
		"more":              {texts{"1", "1", "", "1", "", ""}, texts{"2", "3", "1", "2", "", ""}},
		"less":              {first, texts{"2", "1", "", "2", "", ""}},
		"none":              {first, texts{"2", "0", "", "2", "", ""}},
		"by their load":     {texts{"1", "3", "", "1", "5", ""}, nil},
		"no longer by load": {texts{"1", "3", "", "1", "5", ""}, texts{"2", "3", "", "1", "", ""}},
		"they end":          {first, nil},
	} {
		for n := 1; n <= 5; n++ {
			s := hallLadenFleet(t, n, c.first...)
			for i := range 4 {
				name := "s" + strconv.Itoa(i)
				switch {
				case what == "by their load":
					s.happen(t, hallAsksOf(t, n-1, "sea 5 load "+name+" "+strconv.Itoa(4*i)))
				case what == "they end":
					s.happen(t, hallThroughOf(n-1, 2, asksEnd(name, 0)))
				default:
					s.happen(t, hallThroughOf(n-1, 2, asksChange(name, 0, c.then...)))
				}
			}
			s.happen(t, hallAsksOf(t, n/2, "sea 2 drain b1"))
			s.calm(t, 4)
			s.happen(t, hallEvent{Kind: impl.RecEvFall, A: n - 1 - n/3})
			s.happen(t, hallEvent{Kind: impl.RecEvFall, A: n / 3})
			rounds := s.lives(t)
			if b := impl.HallView(s.world, 0); rounds < 0 || s.left > 0 || what == "they end" && len(b.Gate.Objects) > 0 || what != "they end" && len(b.Stew.Services) != 4 {
				t.Errorf("%s, of %d: %q", what, n, impl.HallFixed(s.world))
			}
			most, long = max(most, rounds), max(long, len(impl.HallFixed(s.world)))
		}
	}
	if most < 100 || long < 50 {
		t.Errorf("too little: %d rounds at most, %d texts at most", most, long)
	}
}

// Promise 45: over made-up worlds, and over ones that events have led to.
func TestHallCalmInTwo(t *testing.T) {
	t.Parallel()
	d := dice(4501)
	most, moved := 0, 0
	for i := range 240 {
		w := d.hallMadeUpWorld()
		if i%2 == 0 {
			w = d.hallLed(t, d.hallTown(), 1+d.roll(5), d.roll(150), d.hallWeather()).world
		}
		a, b := d.roll(14), d.roll(14)
		if i%60 == 0 {
			a = d.roll(1001)
			b = 1000 - a
			most++
		}
		half, want := impl.HallCalm(w, a), impl.HallCalm(w, a+b)
		if got := impl.HallCalm(half, b); !same(got, want) {
			t.Fatalf("world %d: %d and %d rounds: %+v, not %+v", i, a, b, got, want)
		}
		if !same(impl.HallCalm(half, 0), half) || !same(impl.HallCalm(w, 0), w) || !impl.HallWorldOk(half) || !impl.HallWorldOk(want) {
			t.Fatalf("world %d: no rounds change it, or it is not ok: %+v", i, w)
		}
		if a > 0 && b > 0 && !same(impl.HallFixed(want), impl.HallFixed(w)) {
			moved++
		}
	}
	if most < 4 || moved < 60 {
		t.Errorf("too few made-up cases: %d with HallMaxCalm rounds, %d in which something came to be fixed", most, moved)
	}
}
