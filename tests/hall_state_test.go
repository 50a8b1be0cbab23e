package tests

import (
	"slices"
	"strconv"
	"testing"

	"loop.example/wharfdesk/impl"
)

// hallStateBy is the document's sentence on the books that texts lead to.
func hallStateBy(h house, list texts) twoBooks {
	if !hallHouseIsOk(h) {
		return twoBooks{}
	}
	b := twoBooks{Gate: impl.GateBook{Now: len(h.Grants), Given: len(h.Grants), Grants: h.Grants}}
	for place, text := range list {
		if hallIsForm(text) && !slices.Contains(list[:place], text) {
			e, _ := impl.HallRead(text)
			b, _ = hallDoneBy(h, b, e)
		}
	}
	return b
}

// hallToldBy is the document's sentence on what is told to a text.
func hallToldBy(h house, list texts, text string) (impl.GateSaid, bool) {
	for place := range list {
		if list[place] == text && hallIsForm(text) && hallHouseIsOk(h) {
			e, _ := impl.HallRead(text)
			_, said := hallDoneBy(h, hallStateBy(h, list[:place]), e)
			return said, true
		}
	}
	return impl.GateSaid{}, false
}

// checkState says which books texts lead to.
func checkState(t *testing.T, what string, h house, list texts, want twoBooks) {
	t.Helper()
	h, list = spread(h), spread(list)
	houseWas, textsWere := whole(h), whole(list)
	got := impl.HallState(h, list)
	if !same(got, want) {
		t.Errorf("%s: %+v, not %+v", what, got, want)
	}
	if !same(hallStateBy(h, list), want) {
		t.Errorf("%s is read as %+v", what, hallStateBy(h, list))
	}
	if !same(whole(h), houseWas) || !same(whole(list), textsWere) {
		t.Errorf("%s: an argument is changed", what)
	}
	if impl.HallHouseOk(h) && !impl.HallOk(h, got) {
		t.Errorf("%s: not ok: %+v", what, got)
	}
	newMemory(t, what, got, h, list, impl.HallState(h, list))
}

// checkTold says what is told to a text.
func checkTold(t *testing.T, what string, h house, list texts, text string, said impl.GateSaid, ok bool) {
	t.Helper()
	h, list = spread(h), spread(list)
	houseWas, textsWere := whole(h), whole(list)
	if got, told := impl.HallTold(h, list, text); got != said || told != ok {
		t.Errorf("%s: %q is told %+v, %v, not %+v, %v", what, text, got, told, said, ok)
	}
	if got, told := hallToldBy(h, list, text); got != said || told != ok {
		t.Errorf("%s: %q is read to be told %+v, %v", what, text, got, told)
	}
	if !same(whole(h), houseWas) || !same(whole(list), textsWere) {
		t.Errorf("%s: an argument is changed", what)
	}
}

// hallBadHouses are not ok.
func hallBadHouses() map[string]house {
	turned := func(turn func(h *house)) house {
		h := spread(hallHouse())
		turn(&h)
		return h
	}
	return map[string]house{
		"teams turned around":          turned(func(h *house) { slices.Reverse(h.Teams) }),
		"a grant By somebody":          turned(func(h *house) { h.Grants[0].By = "ann" }),
		"a grant without verbs":        turned(func(h *house) { h.Grants[1].Rule.Verbs = nil }),
		"Numbers that leave one out":   turned(func(h *house) { h.Grants[2].Number = 4 }),
		"as many grants as may be + 1": {Teams: hallHouse().Teams, Grants: hallGrants(25)},
	}
}

// inOneRow are texts, each of which may be several.
func inOneRow(parts ...any) texts {
	var list texts
	for _, part := range parts {
		switch part := part.(type) {
		case string:
			list = append(list, part)
		case texts:
			list = append(list, part...)
		}
	}
	return list
}

// hallWebMade makes the service web in dev, with two copies, through the door d1.
const hallWebMade = "slip 1 d1 3 web:0 ann make web dev fleet 1,2,,,,"

// hallWebReady leads from nothing to web, two copies of which are ready.
func hallWebReady() texts {
	return texts{"sea 1 raise b1", hallWebMade, "act 2 web 2 2 * * *", "sea 2 tick", "sea 3 tick"}
}

// hallWebBooks are those that hallWebReady leads to.
func hallWebBooks() twoBooks {
	return twoBooks{
		Gate: impl.GateBook{Now: 4, Given: 3, Grants: hallHouse().Grants, Objects: []impl.GateObject{hallObject("web", "dev", 4, "1,2,0,1,,", "fleet")}},
		Stew: impl.StewBook{
			Now:      5,
			Services: []impl.StewService{{Name: "web", Version: 3, Image: 1, Want: 2, Over: 1, Next: 3}},
			Copies: []impl.StewCopy{
				{Service: "web", Number: 1, Version: 5, Image: 1, State: impl.StewReady, Berth: "b1"},
				{Service: "web", Number: 2, Version: 5, Image: 1, State: impl.StewReady, Berth: "b1"},
			},
			Berths: []impl.StewBerth{{Name: "b1"}},
		},
	}
}

func hallWebTurned(turns ...booksTurn) twoBooks {
	b := spread(hallWebBooks())
	for _, turn := range turns {
		turn(&b)
	}
	return b
}

func TestHallState(t *testing.T) {
	h := hallHouse()
	checkState(t, "no texts", h, nil, impl.HallFirst(h))
	checkState(t, "no texts, but room for some", h, texts{}, impl.HallFirst(h))
	checkState(t, "no house, no texts", house{}, nil, twoBooks{})
	checkState(t, "no house", house{}, texts{"sea 1 tick"}, twoBooks{Stew: impl.StewBook{Now: 1}})
	checkState(t, "texts", h, hallWebReady(), hallWebBooks())
	unread := texts{"", " ", "sea", "sea 1", "sea 0 tick", "sea 1000001 tick", "sea 01 tick", "sea 9 tick ", " sea 9 tick", "sea 9  tick", "Sea 9 tick", "time", "sweep 1 2", "no entry", "\xff", hallWebMade + " ", hallWebMade + ",", letters(161)}
	checkState(t, "texts that are not read", h, unread, impl.HallFirst(h))
	checkState(t, "texts that are not read ahead", h, inOneRow(unread, hallWebReady()), hallWebBooks())
	checkState(t, "texts that are not read behind", h, inOneRow(hallWebReady(), unread), hallWebBooks())
	var among texts
	for i, text := range hallWebReady() {
		among = append(among, unread[i], unread[i+5], text, unread[i])
	}
	checkState(t, "texts that are not read among others", h, among, hallWebBooks())
	later := ofStew(func(s *impl.StewBook) { s.Now++ })
	checkState(t, "a third tick", h, inOneRow(hallWebReady(), "sea 4 tick"), hallWebTurned(later))
	for what, bad := range hallBadHouses() {
		checkState(t, what, bad, nil, twoBooks{})
		checkState(t, what, bad, hallWebReady(), twoBooks{})
		checkState(t, what, bad, texts{"sea 1 raise b1"}, twoBooks{})
	}
}

// A text counts where it stands first, and nowhere else.
func TestHallStateOnce(t *testing.T) {
	h := hallHouse()
	ready := hallWebReady()
	later := ofStew(func(s *impl.StewBook) { s.Now++ })
	sunk := ofStew(func(s *impl.StewBook) { s.Now, s.Berths, s.Copies = s.Now+1, nil, nil })
	bound := func(most int) booksTurn {
		return ofGate(func(g *impl.GateBook) {
			g.Ledgers = []impl.GateLedger{{Team: "dev", Resource: "copies", Most: most, Free: most - 3}}
		})
	}
	checkState(t, "one twice", h, texts{"sea 1 tick", "sea 1 tick"}, impl.HallState(h, texts{"sea 1 tick"}))
	checkState(t, "one three times", h, slices.Repeat(texts{"sea 1 tick"}, 3), impl.HallState(h, texts{"sea 1 tick"}))
	checkState(t, "all twice", h, inOneRow(ready, ready), hallWebBooks())
	checkState(t, "all three times", h, inOneRow(ready, ready, ready), hallWebBooks())
	var doubled texts
	for _, text := range ready {
		doubled = append(doubled, text, text)
	}
	checkState(t, "each twice on the spot", h, doubled, hallWebBooks())
	checkState(t, "with others between", h, inOneRow(ready, "sea 2 tick", "sea 4 tick", "sea 2 tick", "no entry", "sea 4 tick", "sea 3 tick"), hallWebTurned(later))
	checkState(t, "the same but for its Number", h, inOneRow(ready, "sea 4 tick", "sea 5 tick", "sea 6 tick"), hallWebTurned(later, later, later))
	checkState(t, "what would be turned back", h, inOneRow(ready, "bound 1 dev copies 9", "bound 1 dev copies 8", "bound 1 dev copies 9"), hallWebTurned(bound(8)))
	checkState(t, "what is turned back with another Number", h, inOneRow(ready, "bound 1 dev copies 9", "bound 1 dev copies 8", "bound 2 dev copies 9"), hallWebTurned(bound(9)))
	// Each of these is refused where it stands first, and could be done where it stands again.
	checkState(t, "refused at sea", h, inOneRow("sea 9 sink b1", ready, "sea 9 sink b1"), hallWebBooks())
	checkState(t, "refused at sea, with another Number", h, inOneRow("sea 9 sink b1", ready, "sea 8 sink b1"), hallWebTurned(sunk))
	checkState(t, "a refused slip", h, inOneRow("slip 2 d1 3 web:4 ann end web 0", ready, "slip 2 d1 3 web:4 ann end web 0"), hallWebBooks())
	checkState(t, "a refused slip, with another Number", h, inOneRow("slip 2 d1 3 web:4 ann end web 0", ready, "slip 3 d1 3 web:4 ann end web 0"),
		hallWebTurned(renewed(0, isEndingNow), wished(0, isGone)))
	checkState(t, "a refused bound", h, inOneRow(ready, "bound 1 dev copies 2", "slip 2 d1 3 web:4 ann change web 0 1,1,,,,", "bound 1 dev copies 2"),
		hallWebTurned(renewed(0, setValues("1", "1", "0", "1", "", "")), wished(0, func(s *impl.StewService) { s.Want = 1 })))
	checkState(t, "a refused act", h, inOneRow("sea 1 raise b1", "act 2 web 2 2 * * *", hallWebMade, "act 2 web 2 2 * * *", "sea 2 tick"), impl.HallState(h, texts{"sea 1 raise b1", hallWebMade, "sea 2 tick"}))
	checkState(t, "a refused sweep", h, inOneRow("sweep 1", hallSwept(), "sweep 1"), impl.HallState(h, hallSwept()))
	if swept := impl.HallState(h, inOneRow("sweep 1", hallSwept(), "sweep 2")); len(swept.Gate.Objects) != 0 {
		t.Errorf("a refused sweep, with another Number: %+v", swept)
	}
}

// hallSwept leads to an object that a sweep lets go.
func hallSwept() texts {
	return texts{hallWebMade, "slip 2 d1 3 web:4 ann end web 0", "act 2 web 2 0 * * drop"}
}

func TestHallTold(t *testing.T) {
	h := hallHouse()
	ready := hallWebReady()
	for place, version := range []int{1, 4, 3, 4, 5} {
		text := ready[place]
		said := impl.GateSaid{Version: version}
		checkTold(t, "once", h, ready, text, said, true)
		checkTold(t, "once, at the end", h, ready[:place+1], text, said, true)
		checkTold(t, "twice", h, inOneRow(ready, "sea 9 tick", text), text, said, true)
		checkTold(t, "twice on the spot", h, inOneRow(ready[:place], text, ready[place:]), text, said, true)
		checkTold(t, "three times", h, inOneRow(ready, ready, ready), text, said, true)
		checkTold(t, "not there", h, ready[:place], text, impl.GateSaid{}, false)
		checkTold(t, "not among others", h, slices.Delete(slices.Clone(ready), place, place+1), text, impl.GateSaid{}, false)
		for what, bad := range hallBadHouses() {
			checkTold(t, what, bad, ready, text, impl.GateSaid{}, false)
		}
	}
	checkTold(t, "no texts", h, nil, "sea 1 tick", impl.GateSaid{}, false)
	checkTold(t, "another Number", h, ready, "sea 4 tick", impl.GateSaid{}, false)
	checkTold(t, "no house", house{}, texts{"sea 1 tick"}, "sea 1 tick", impl.GateSaid{Version: 1}, true)
	for _, text := range []string{"", "no entry", "sea 0 tick", "sea 1 tick ", "time", hallWebMade + ",", letters(161)} {
		checkTold(t, "not read", h, ready, text, impl.GateSaid{}, false)
		checkTold(t, "not read, among texts", h, inOneRow(text, ready, text), text, impl.GateSaid{}, false)
		checkTold(t, "not read, alone", h, texts{text}, text, impl.GateSaid{}, false)
		checkTold(t, "behind one that is not read", h, inOneRow(text, ready), "sea 3 tick", impl.GateSaid{Version: 5}, true)
	}
	// What is told is what was told where it stands first, whatever would be told by now.
	checkTold(t, "done first, refused then", h, inOneRow(ready, "sea 9 sink b1", "sea 9 sink b1"), "sea 9 sink b1", impl.GateSaid{Version: 6}, true)
	checkTold(t, "refused first, done then", h, inOneRow("sea 9 sink b1", ready, "sea 9 sink b1"), "sea 9 sink b1", refused(14, 3), true)
	checkTold(t, "another version by now", h, inOneRow(ready, "sea 2 tick"), "sea 2 tick", impl.GateSaid{Version: 4}, true)
	// Those ahead of it count once, too.
	checkTold(t, "behind some that stand twice", h, inOneRow("sea 1 tick", "sea 1 tick", "sea 2 tick", "sea 1 tick", "sea 3 tick"), "sea 3 tick", impl.GateSaid{Version: 3}, true)
}

// hallToldCase is what a text is told behind others.
type hallToldCase struct {
	what  string
	ahead texts
	text  string
	said  impl.GateSaid
}

func checkToldCases(t *testing.T, list []hallToldCase) {
	t.Helper()
	h := hallHouse()
	for _, c := range list {
		row := inOneRow(c.ahead, c.text)
		checkTold(t, c.what, h, row, c.text, c.said, true)
		checkTold(t, c.what+", twice", h, inOneRow(row, "sea 999 tick", "time 999", c.text), c.text, c.said, true)
		checkTold(t, c.what+", not there", h, c.ahead, c.text, impl.GateSaid{}, false)
		ahead, behind := impl.HallState(h, c.ahead), impl.HallState(h, row)
		if c.said.Code == 0 == same(ahead, behind) {
			t.Errorf("%s: %+v, but %+v became %+v", c.what, c.said, ahead, behind)
		}
		checkState(t, c.what, h, inOneRow(row, c.text), behind)
	}
}

// hallMadeIn makes so many services, each through the door d1 in ops.
func hallMadeIn(many int, values string) texts {
	var list texts
	for i := range many {
		name := "x" + strconv.Itoa(i)
		list = append(list, "slip 1 d1 3 "+name+":0 ann make "+name+" ops audit,fleet "+values)
	}
	return list
}

// hallKeptIn leads to so many objects that are Ending and stay, and to no service.
func hallKeptIn(many int) texts {
	var list texts
	for i, text := range hallMadeIn(many, "1,0,,,,") {
		name := "x" + strconv.Itoa(i)
		seen := strconv.Itoa(3*i + 2)
		list = append(list, text, "slip 2 d1 3 "+name+":"+strconv.Itoa(4+3*i)+" ann end "+name+" 0", "act 1 "+name+" "+seen+" 0 * * drop")
	}
	return list
}

// Each code of a slip that texts can lead to. (No field of the law is Fixed, and no Now comes to its end in any row that a test can have.)
func TestHallToldSlips(t *testing.T) {
	ready := hallWebReady()
	bound := inOneRow(ready, "bound 1 ops copies 9", "bound 1 dev copies 9")
	gave := "slip 1 d1 3 * ann give dan 1 * * *"
	gifts := texts{gave}
	for len(gifts) < 21 {
		gifts = append(gifts, "slip 1 d1 "+strconv.Itoa(3+len(gifts))+" * ann give dan 1 * * *")
	}
	slip := func(what string, ahead texts, words string, said impl.GateSaid) hallToldCase {
		return hallToldCase{what, ahead, "slip 7 d1 3 " + words, said}
	}
	checkToldCases(t, []hallToldCase{
		slip("made", nil, "web:0 ann make web dev fleet 1,2,,,,", impl.GateSaid{Version: 4}),
		slip("changed", ready, "web:4 ann change web 4 2,2,,,,", impl.GateSaid{Version: 5}),
		slip("ended", ready, "web:4 ann end web 0", impl.GateSaid{Version: 5}),
		slip("a hold let go", hallMadeIn(1, "1,2,,,,"), "* ann letgo x0 audit", impl.GateSaid{Version: 5}),
		slip("given", ready, "* ann give dan 1 * * *", impl.GateSaid{Version: 5}),
		{"taken", texts{gave}, "slip 7 d1 4 * ann take 4", impl.GateSaid{Version: 5}},
		slip("no such team", ready, "* ann make new ghost fleet 1,2,,,,", refused(2, 0)),
		slip("too many wants", ready, "a:0,b:0,c:0,d:0,e:0,f:0,g:0,h:0,i:0 ann end web 0", refused(2, 0)),
		slip("there already", ready, "* ann make web dev fleet 1,2,,,,", refused(3, 0)),
		slip("not there", ready, "* ann end new 0", refused(3, 0)),
		slip("they may not", ready, "* bob end web 0", refused(4, 0)),
		slip("seen otherwise", ready, "* ann end web 3", impl.GateSaid{Code: 5, Version: 4}),
		slip("Ending", inOneRow(ready, "slip 2 d1 3 * ann end web 0"), "* ann change web 0 1,2,,,,", refused(6, 0)),
		slip("the first value", ready, "* ann make new dev fleet 1001,2,,,,", refused(7, 0)),
		slip("the second value", ready, "* ann make new dev fleet 1,,,,,", refused(7, 1)),
		slip("the fifth value", ready, "* ann change web 0 1,2,,,0,", refused(7, 4)),
		slip("a link", ready, "* ann make new dev fleet 1,2,,,,ghost", refused(9, 5)),
		slip("no purse of the first ledger", bound, "* ann make new dev fleet 1,2,,,,", refused(10, 0)),
		slip("no purse of the second ledger", bound, "* ann make new ops fleet 1,2,,,,", refused(10, 1)),
		slip("no such hold", ready, "* ann letgo web audit", refused(11, 0)),
		slip("as many objects as may be", hallKeptIn(40), "* ann make new dev fleet 1,2,,,,", refused(11, 0)),
		slip("as many objects as may be but one", hallKeptIn(39), "* ann make new dev fleet 1,2,,,,", impl.GateSaid{Version: 3 + 3*39 + 1}),
		{"as many grants as may be", gifts, "slip 7 d1 24 * ann give dan 1 * * *", refused(11, 0)},
		{"as many grants as may be but one", gifts[:20], "slip 7 d1 23 * ann give dan 1 * * *", impl.GateSaid{Version: 24}},
		slip("other grants", texts{gave}, "* ann make new dev fleet 1,2,,,,", refused(12, 0)),
		slip("the first want", ready, "web:0 ann end web 0", refused(12, 1)),
		slip("the third want", ready, "web:4,new:0,old:1 ann end web 0", refused(12, 3)),
		slip("an eighth service", hallMadeIn(7, "1,2,,,,"), "* ann make new dev fleet 1,2,,,,", impl.GateSaid{Version: 11}),
		slip("a ninth service", hallMadeIn(8, "1,2,,,,"), "* ann make new dev fleet 1,2,,,,", refused(14, 2)),
		slip("to make without the hold", ready, "* ann make new dev audit 1,2,,,,", refused(15, 0)),
		slip("to let the hold go", ready, "* ann letgo web fleet", refused(15, 0)),
	})
}

// Each code of the other entries that texts can lead to.
func TestHallToldOthers(t *testing.T) {
	ready := hallWebReady()
	bound := inOneRow(ready, "bound 1 dev copies 9")
	var ledgers, purses texts
	for i := range 10 {
		ledgers = append(ledgers, "bound 1 dev r"+strconv.Itoa(i)+" 5")
	}
	for i := range 24 {
		purses = append(purses, "draw 1 d"+strconv.Itoa(i)+" dev r0 1")
	}
	rich := append(texts{"bound 1 dev r0 99"}, purses...)
	gone := inOneRow(ready, "slip 2 d1 3 web:4 ann end web 0")
	follows := texts{"sea 1 raise b1", "slip 1 d1 3 web:0 ann make web dev fleet 1,3,,,5,"}
	checkToldCases(t, []hallToldCase{
		{"drawn", bound, "draw 7 d1 dev copies 6", impl.GateSaid{}},
		{"drawn of no ledger", bound, "draw 7 d1 ops copies 6", refused(2, 0)},
		{"more than is free", bound, "draw 7 d1 dev copies 7", refused(3, 0)},
		{"as many purses as may be", rich, "draw 7 e dev r0 1", refused(4, 0)},
		{"as many purses as may be but one", rich[:24], "draw 7 e dev r0 1", impl.GateSaid{}},
		{"given back", inOneRow(bound, "draw 1 d1 dev copies 6"), "back 7 d1 dev copies", impl.GateSaid{}},
		{"nothing to give back", bound, "back 7 d1 dev copies", refused(2, 0)},
		{"bound", ready, "bound 7 dev copies 3", impl.GateSaid{}},
		{"bound of no team", ready, "bound 7 ghost copies 3", refused(2, 0)},
		{"bound too low", ready, "bound 7 dev copies 2", refused(3, 0)},
		{"as many ledgers as may be", ledgers, "bound 7 dev new 1", refused(4, 0)},
		{"as many ledgers as may be but one", ledgers[:9], "bound 7 dev new 1", impl.GateSaid{}},
		{"time", nil, "time 7", impl.GateSaid{}},
		{"swept", hallSwept(), "sweep 7", impl.GateSaid{}},
		{"nothing to sweep", gone, "sweep 7", refused(2, 0)},
		{"created", ready, "act 7 web 3 1 * * *", impl.GateSaid{Version: 6}},
		{"scaled", follows, "act 7 web 2 0 2:0 * *", impl.GateSaid{Version: 3}},
		{"ended", gone, "act 7 web 6 0 * 1:5,2:5 *", impl.GateSaid{Version: 7}},
		{"dropped", hallSwept()[:2], "act 7 web 2 0 * * drop", impl.GateSaid{Version: 3}},
		{"an act that is not ok", ready, "act 7 web 3 21 * * *", refused(14, 2)},
		{"an act for no service", ready, "act 7 new 3 1 * * *", refused(14, 3)},
		{"an act seen otherwise", ready, "act 7 web 2 1 * * *", refused(14, 4)},
		{"an end that may not be", ready, "act 7 web 3 0 * 1:5 *", refused(14, 5)},
		{"more than may be", ready, "act 7 web 3 2 * * *", refused(14, 6)},
		{"as many copies as may be", hallManyCopies(), "act 7 web 41 1 * * *", refused(14, 7)},
		{"a tick", ready, "sea 7 tick", impl.GateSaid{Version: 6}},
		{"failed", ready, "sea 7 fails web 2", impl.GateSaid{Version: 6}},
		{"sunk", ready, "sea 7 sink b1", impl.GateSaid{Version: 6}},
		{"raised", ready, "sea 7 raise b2", impl.GateSaid{Version: 6}},
		{"to be drained", ready, "sea 7 drain b1", impl.GateSaid{Version: 6}},
		{"a load", follows, "sea 7 load web 9", impl.GateSaid{Version: 3}},
		{"too great a load", follows, "sea 7 load web 1000001", refused(14, 2)},
		{"one berth too many", texts{"sea 1 raise a", "sea 1 raise b", "sea 1 raise c", "sea 1 raise d", "sea 1 raise e", "sea 1 raise f"}, "sea 7 raise g", refused(14, 2)},
		{"no such copy", ready, "sea 7 fails web 3", refused(14, 3)},
		{"no such berth", ready, "sea 7 sink b2", refused(14, 3)},
		{"a load of what does not follow it", ready, "sea 7 load web 1", refused(14, 3)},
	})
}

// hallManyCopies leads to 200 copies of web, all Ending, as none of them waits for a tick.
func hallManyCopies() texts {
	list := texts{"slip 1 d1 3 web:0 ann make web dev fleet 1,10,,,,"}
	now, next := 1, 1
	for range 20 {
		ends := ""
		for range 10 {
			ends += "," + strconv.Itoa(next) + ":" + strconv.Itoa(now+1)
			next++
		}
		list = append(list, "act 1 web "+strconv.Itoa(now)+" 10 * * *", "act 1 web "+strconv.Itoa(now+1)+" 0 * "+ends[1:]+" *")
		now += 2
	}
	return list
}
