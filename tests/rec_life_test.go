package tests

import (
	"fmt"
	"slices"
	"testing"

	"loop.example/wharfdesk/impl"
)

// recWeather is how often things happen, as parts of their sum, and how many of the first and of the last messages are the ones that are brought, doubled and lost.
type recWeather struct {
	tick, bring, double, lose, fall, rise, wish int
	near                                        int
}

func (d *dice) recWeather() recWeather {
	return recWeather{
		tick: 1 + d.roll(40), bring: 20 + d.roll(200), double: d.roll(20), lose: d.roll(20),
		fall: d.roll(4), rise: d.roll(8), wish: d.roll(6),
		near: pick(d, 1, 5, 40, 600),
	}
}

// recStory is a world that RecNewWorld and events have led to, the wishes that were handed in, and what happened, counted.
type recStory struct {
	world  impl.RecWorld
	handed map[string]bool
	falls  int
	leads  int
	turned int
}

// recLifeEvent is something that happens; there are so many texts.
func (d *dice) recLifeEvent(w impl.RecWorld, weather recWeather, texts int) impl.RecEvent {
	e := impl.RecEvent{A: d.roll(len(w.Recorders))}
	kinds := []int{weather.tick, weather.bring, weather.double, weather.lose, weather.fall, weather.rise, weather.wish}
	sum := 0
	for _, often := range kinds {
		sum += often
	}
	for roll := d.roll(sum); roll >= 0; e.Kind++ {
		roll -= kinds[e.Kind]
	}
	if e.Kind == impl.RecEvWish {
		e.Text = fmt.Sprint("wish ", d.roll(texts))
	}
	if n := len(w.Flight); n > 0 && e.Kind >= impl.RecEvBring && e.Kind <= impl.RecEvLose {
		e.A = d.roll(min(weather.near, n))
		if d.roll(3) == 0 {
			e.A = n - 1 - e.A
		}
	}
	return e
}

// recLed lets so many things happen to a new world. On the way promises 26, 28, 29, 30 and 32 hold.
func (d *dice) recLed(t *testing.T, events int, weather recWeather, texts int) *recStory {
	t.Helper()
	s := &recStory{world: impl.RecNewWorld(1 + d.roll(5)), handed: map[string]bool{"": true}}
	for range events {
		s.happen(t, d.recLifeEvent(s.world, weather, texts))
	}
	return s
}

func (s *recStory) happen(t *testing.T, e impl.RecEvent) {
	t.Helper()
	if e.Kind == impl.RecEvWish {
		s.handed[e.Text] = true
	}
	before := s.world
	s.world = impl.RecDo(before, e)
	if fault := s.fault(before); fault != "" {
		t.Fatalf("%+v in %+v: %s: %+v", e, before, fault, s.world)
	}
	for at, r := range s.world.Recorders {
		switch was := before.Recorders[at]; {
		case was.Up && !r.Up:
			s.falls++
		case !was.Lead && r.Lead:
			s.leads++
		}
	}
	if e.Kind == impl.RecEvBring && e.A > 0 && len(s.world.Flight) < len(before.Flight) {
		s.turned++
	}
}

// fault is empty by promises 26, 28, 29, 30 and 32.
func (s *recStory) fault(before impl.RecWorld) string {
	w := s.world
	known := func(r impl.Recorder) bool {
		return all(impl.RecBook(r), func(text string) bool { return s.handed[text] })
	}
	switch {
	case !impl.RecWorldOk(w):
		return "not ok"
	case !all(before.Fixed, func(fix impl.RecFix) bool { return slices.Contains(w.Fixed, fix) }):
		return "what was fixed is not there"
	case !impl.RecAgree(w):
		return "no agreement"
	case recApart(w) > 0:
		return fmt.Sprintf("place %d has two texts", recApart(w))
	case !recLeadApart(w):
		return "two lead under one ballot"
	case !all(w.Recorders, known):
		return "a text that nobody handed in"
	}
	return ""
}

// recApart is a place of which two texts are told, by what recorders know, what most have and what is fixed; 0 if there is none.
func recApart(w impl.RecWorld) int {
	told := map[int]string{}
	apart := 0
	tell := func(index int, text string) {
		if other, is := told[index]; is && other != text {
			apart = index
		}
		told[index] = text
	}
	for _, fix := range w.Fixed {
		tell(fix.Index, fix.Text)
	}
	for _, r := range w.Recorders {
		for place, text := range impl.RecBook(r) {
			tell(place+1, text)
		}
		for index := 1; index <= len(r.Safe.Slots); index++ {
			if text, is := impl.RecMajor(w, index); is {
				tell(index, text)
			}
		}
	}
	return apart
}

func recLeadApart(w impl.RecWorld) bool {
	ballots := map[int]int{}
	for _, r := range w.Recorders {
		if r.Lead {
			ballots[r.Ballot]++
		}
	}
	for _, many := range ballots {
		if many > 1 {
			return false
		}
	}
	return true
}

// Promises 26, 28, 29, 30 and 32, through worlds with falls, losses, doubles and turned orders.
func TestRecPromisesOfWorlds(t *testing.T) {
	t.Parallel()
	d := dice(2701)
	var falls, leads, turned, fixed, long int
	for range 60 {
		s := d.recLed(t, 300+d.roll(1200), d.recWeather(), 5+d.roll(50))
		falls, leads, turned, fixed = falls+s.falls, leads+s.leads, turned+s.turned, fixed+len(s.world.Fixed)
		if len(s.world.Recorders) > 2 && len(s.world.Fixed) > 2 {
			long++
		}
	}
	if falls < 200 || leads < 60 || turned < 5000 || fixed < 150 || long < 10 {
		t.Errorf("too little: %d falls, %d came to lead, %d were brought out of order, %d were fixed, %d that got far", falls, leads, turned, fixed, long)
	}
}

// recTrouble is a weather in which those who lead change all the time.
func recTrouble(d *dice) recWeather {
	return recWeather{tick: 30, bring: 60 + d.roll(60), double: 3, lose: 15 + d.roll(20), fall: 1 + d.roll(3), rise: 6, wish: 2, near: 600}
}

// The same where many lead, one after the other, and of what they lead with much is left half done.
func TestRecPromisesOfTroubledWorlds(t *testing.T) {
	t.Parallel()
	d := dice(2702)
	leads, ballots := 0, 0
	for range 30 {
		s := d.recLed(t, 1500, recTrouble(&d), 40)
		leads += s.leads
		for _, r := range s.world.Recorders {
			ballots = max(ballots, r.Disk.Promise)
		}
	}
	if leads < 80 || ballots < 20 {
		t.Errorf("too little: %d came to lead, the ballots went to %d", leads, ballots)
	}
}

// recUps are the places of those who are Up.
func recUps(w impl.RecWorld) []int {
	var list []int
	for at, r := range w.Recorders {
		if r.Up {
			list = append(list, at)
		}
	}
	return list
}

// recExtent is how many slots anyone has at most, and how many texts there are in all slots, wishes and messages together, empty ones not counted.
func recExtent(w impl.RecWorld) (int, int) {
	most, texts := 0, map[string]bool{}
	slots := func(list []impl.RecSlot) {
		most = max(most, len(list))
		for _, s := range list {
			texts[s.Text] = true
		}
	}
	messages := func(list []impl.RecMessage) {
		for _, m := range list {
			texts[m.Text] = true
			slots(m.Slots)
		}
	}
	for _, r := range w.Recorders {
		slots(r.Safe.Slots)
		slots(r.Disk.Slots)
		slots(r.Best)
		messages(r.Held)
		for _, text := range r.Wishes {
			texts[text] = true
		}
	}
	messages(w.Flight)
	delete(texts, "")
	return most, len(texts)
}

// recBringsIn is promise 31: a text is handed to the recorder at a place, and behind 200 rounds all know it who are Up. It tells how many rounds there were until then.
func recBringsIn(t *testing.T, s *recStory, at int) int {
	t.Helper()
	const text = "the one"
	s.happen(t, impl.RecEvent{Kind: impl.RecEvWish, A: at, Text: text})
	if slots, texts := recExtent(s.world); slots > 20 || texts > 60 {
		t.Fatalf("%d slots, %d texts: %+v", slots, texts, s.world)
	}
	first := s.world
	isKnown := func(w impl.RecWorld) bool {
		return all(recUps(w), func(at int) bool { return slices.Contains(impl.RecBook(w.Recorders[at]), text) })
	}
	s.world = impl.RecCalm(first, 200)
	if !slices.Equal(recUps(s.world), recUps(first)) || !isKnown(s.world) {
		t.Fatalf("%+v became %+v", first, s.world)
	}
	if fault := s.fault(first); fault != "" {
		t.Fatalf("%+v: %s: %+v", first, fault, s.world)
	}
	rounds := 0
	for ; !isKnown(first); rounds++ {
		first = impl.RecCalm(first, 1)
	}
	return rounds
}

// Promise 31, from worlds in any weather.
func TestRecLiveness(t *testing.T) {
	t.Parallel()
	d := dice(2703)
	tried, downs, most := 0, 0, 0
	for i := range 120 {
		weather := d.recWeather()
		if i%3 == 0 {
			weather = recTrouble(&d)
		}
		s := d.recLed(t, d.roll(700), weather, 5+d.roll(50))
		for of := len(s.world.Recorders); 2*len(recUps(s.world)) <= of; {
			s.happen(t, recEvent(impl.RecEvRise, d.roll(of)))
		}
		at := pick(&d, recUps(s.world)...)
		if slots, texts := recExtent(s.world); slots > 20 || texts > 59 || len(s.world.Recorders[at].Wishes) == 20 {
			continue
		}
		tried++
		downs += len(s.world.Recorders) - len(recUps(s.world))
		most = max(most, recBringsIn(t, s, at))
	}
	if tried < 90 || downs < 20 || most < 12 {
		t.Errorf("too little: %d worlds, %d that were not Up, %d rounds at most", tried, downs, most)
	}
}

// recLaden is led to from a new world: the first leads with 20 slots, of which nothing is known; each has as many wishes as it may, but the last one less; all that has been sent is in flight, as much as there may be, or, if it is brought, was taken by the last one, who holds what it says to that.
func recLaden(t *testing.T, of int, brought bool) *recStory {
	t.Helper()
	s := &recStory{world: impl.RecCalm(impl.RecNewWorld(of), 12), handed: map[string]bool{"": true}}
	wish := func(at, first, many int) {
		for i := range many {
			s.happen(t, impl.RecEvent{Kind: impl.RecEvWish, A: at, Text: fmt.Sprint("wish ", (first+i)%59)})
		}
	}
	if of == 1 {
		wish(0, 0, 19)
		return s
	}
	wish(0, 0, 20)
	for at := 1; at < of; at++ {
		wish(at, 10+10*at, 20-at/(of-1))
	}
	for range 8 {
		s.happen(t, recEvent(impl.RecEvTick, 0))
		for at := len(s.world.Flight) - 1; at >= 0 && brought; at-- {
			if s.world.Flight[at].To == of {
				s.happen(t, recEvent(impl.RecEvBring, at))
			}
		}
	}
	for at := 0; len(s.world.Flight) < 600; at++ {
		s.happen(t, recEvent(impl.RecEvDouble, at))
	}
	return s
}

// Promise 31 where there is as much as it may be: those who fall are as many as may be, the first among them, or not.
func TestRecLivenessLaden(t *testing.T) {
	t.Parallel()
	most, long := 0, 0
	for of := 1; of <= 5; of++ {
		for _, brought := range []bool{false, true} {
			for _, fallen := range [][]int{nil, {0}, {1}, {0, 1}, {1, 2}} {
				if 2*len(fallen) >= of || slices.Contains(fallen, of-1) {
					continue
				}
				s := recLaden(t, of, brought)
				for _, at := range fallen {
					s.happen(t, recEvent(impl.RecEvFall, at))
				}
				long = max(long, recBringsIn(t, s, of-1))
				most = max(most, len(s.world.Fixed))
			}
		}
	}
	if most < 60 || long < 20 {
		t.Errorf("too little: %d were fixed at most, in %d rounds", most, long)
	}
}
