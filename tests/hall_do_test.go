package tests

import (
	"slices"
	"strconv"
	"testing"

	"loop.example/wharfdesk/impl"
)

// checkDo says what bringing an entry in comes to.
func checkDo(t *testing.T, what string, h house, b twoBooks, e entry, want twoBooks, said impl.GateSaid) {
	t.Helper()
	h, b, e = spread(h), spread(b), spread(e)
	houseWas, booksWere, entryWas := whole(h), whole(b), whole(e)
	got, told := impl.HallDo(h, b, e)
	if told != said {
		t.Errorf("%s: told %+v, not %+v", what, told, said)
	}
	if !same(got, want) {
		t.Errorf("%s: %+v, not %+v", what, got, want)
	}
	if !same(whole(h), houseWas) || !same(whole(b), booksWere) || !same(whole(e), entryWas) {
		t.Errorf("%s: an argument is changed", what)
	}
	if said.Code == 0 && !impl.HallOk(h, got) {
		t.Errorf("%s: not ok: %+v", what, got)
	}
	again, _ := impl.HallDo(h, b, e)
	newMemory(t, what, got, h, b, e, again)
}

// hallDoCase is a text that is brought into hallBooks as turned: with the Code 0 they are turned by does, with another they stay.
type hallDoCase struct {
	what string
	text string
	said impl.GateSaid
	with []booksTurn
	does []booksTurn
}

func hallDone(what, text string, version int, does ...booksTurn) hallDoCase {
	return hallDoCase{what: what, text: text, said: impl.GateSaid{Version: version}, does: does}
}

func hallRefused(what, text string, code, place int, with ...booksTurn) hallDoCase {
	return hallDoCase{what: what, text: text, said: refused(code, place), with: with}
}

func (c hallDoCase) in(with ...booksTurn) hallDoCase {
	c.with = append(slices.Clone(c.with), with...)
	return c
}

func checkDoCases(t *testing.T, list []hallDoCase) {
	t.Helper()
	for _, c := range list {
		e, ok := impl.HallRead(c.text)
		b := hallTurned(c.with...)
		if !ok || !hallIsOk(hallHouse(), b) {
			t.Errorf("%s: %q is read: %v, or the books are not ok: %+v", c.what, c.text, ok, b)
		}
		want := spread(b)
		if c.said.Code == 0 {
			for _, turn := range c.does {
				turn(&want)
			}
		}
		checkDo(t, c.what, hallHouse(), b, e, want, c.said)
		byReading, said := hallDoneBy(hallHouse(), b, e)
		if said != c.said || !same(byReading, want) {
			t.Errorf("%s is read as %+v and %+v", c.what, said, byReading)
		}
	}
}

// renewed has an object changed, with the next version of the gate's book.
func renewed(place int, turn func(o *impl.GateObject)) booksTurn {
	return func(b *twoBooks) {
		b.Gate.Now++
		turn(&b.Gate.Objects[place])
		b.Gate.Objects[place].Version = b.Gate.Now
	}
}

// wished has a service changed as by a wish, with the next version of the stewards' book.
func wished(place int, turn func(s *impl.StewService)) booksTurn {
	return func(b *twoBooks) {
		b.Stew.Now++
		s := &b.Stew.Services[place]
		turn(s)
		s.Version, s.Cool = b.Stew.Now, 0
	}
}

func madeObject(place int, o impl.GateObject) booksTurn {
	return func(b *twoBooks) {
		b.Gate.Now++
		o.Version = b.Gate.Now
		b.Gate.Objects = slices.Insert(slices.Clone(b.Gate.Objects), place, o)
	}
}

func madeService(place int, s impl.StewService) booksTurn {
	return func(b *twoBooks) {
		b.Stew.Now++
		s.Version, s.Next = b.Stew.Now, 1
		b.Stew.Services = slices.Insert(slices.Clone(b.Stew.Services), place, s)
	}
}

func free(ledger, more int) booksTurn {
	return func(b *twoBooks) { b.Gate.Ledgers[ledger].Free += more }
}

// paid has a purse with so much less, or gone where nothing is left.
func paid(purse, amount int) booksTurn {
	return func(b *twoBooks) {
		b.Gate.Purses[purse].Amount -= amount
		if b.Gate.Purses[purse].Amount == 0 {
			b.Gate.Purses = slices.Delete(slices.Clone(b.Gate.Purses), purse, purse+1)
		}
	}
}

func gateAt(now int) booksTurn {
	return ofGate(func(g *impl.GateBook) { g.Now = now })
}

func stewAt(now int) booksTurn {
	return ofStew(func(s *impl.StewBook) { s.Now = now })
}

func setValues(values ...string) func(o *impl.GateObject) {
	return func(o *impl.GateObject) { o.Values = values }
}

func isEndingNow(o *impl.GateObject) {
	o.Ending = true
}

func isGone(s *impl.StewService) {
	s.Gone = true
}

// What comes first: books that are not ok, then an entry without a form; with both the books are nothing.
func TestHallDoFirst(t *testing.T) {
	tick := hallAtSea(1, seaEvent{Kind: impl.StewTick})
	formless := []entry{
		{}, {Kind: 9, Number: 1}, {Kind: impl.HallTime}, {Kind: impl.HallTime, Number: 1000001}, {Kind: impl.HallTime, Number: 1, Door: "d1"},
		{Kind: impl.HallDraw, Number: 1, Door: "d1", Team: "dev", Resource: "copies", Amount: -1},
		{Kind: impl.HallDraw, Number: 1, Door: "D1", Team: "dev", Resource: "copies", Amount: 1},
		hallAtSea(1, stewWishOf(stewPlain("web"))), hallAtSea(1, seaEvent{}),
		hallActed(1, stewardAct{Service: "web", Seen: 25, Want: 1}),
		hallAsked(1, ask{Verb: impl.GateEnd, Kind: "berth", Name: "web"}),
		hallAsked(1, ask{Verb: impl.GateMake, Kind: "service", Name: "new", Team: "dev", Values: texts{"1"}}),
	}
	bad := map[string]twoBooks{
		"Gate is not ok":    hallTurned(gateAt(1)),
		"Stew is not valid": hallTurned(stewAt(1)),
		"they are not tied": hallTurned(noService(hallWebService)),
	}
	badHouse := house{Teams: hallHouse().Teams, Grants: hallGrants(25)}
	for what, b := range bad {
		checkDo(t, what, hallHouse(), b, tick, twoBooks{}, refused(1, 0))
	}
	checkDo(t, "the house is not ok", badHouse, hallBooks(), tick, twoBooks{}, refused(1, 0))
	checkDo(t, "the house is not ok, and there are no books", badHouse, twoBooks{}, tick, twoBooks{}, refused(1, 0))
	checkDo(t, "another house", house{}, hallBooks(), tick, twoBooks{}, refused(1, 0))
	for _, e := range formless {
		checkDo(t, "no form", hallHouse(), hallBooks(), e, twoBooks{}, refused(2, 0))
		checkDo(t, "no form", hallHouse(), impl.HallFirst(hallHouse()), e, twoBooks{}, refused(2, 0))
		checkDo(t, "no form in a house that is not ok", badHouse, hallBooks(), e, twoBooks{}, refused(1, 0))
		for what, b := range bad {
			checkDo(t, "no form, and "+what, hallHouse(), b, e, twoBooks{}, refused(1, 0))
		}
	}
	ticked := twoBooks{Stew: impl.StewBook{Now: 1}}
	checkDo(t, "no house and no books", house{}, twoBooks{}, tick, ticked, impl.GateSaid{Version: 1})
}

// The hold of the hall is not for others, whatever else the slip is.
func TestHallDoHold(t *testing.T) {
	never := gateAt(1000000)
	checkDoCases(t, []hallDoCase{
		hallRefused("to make without holds", "slip 1 d1 4 new:0 ann make new dev * 1,2,,,,", 15, 0),
		hallRefused("to make with another hold", "slip 1 d1 4 new:0 ann make new dev audit 1,2,,,,", 15, 0),
		hallRefused("to make with holds like it", "slip 1 d1 4 new:0 ann make new dev flee,fleet-,fleets 1,2,,,,", 15, 0),
		hallRefused("to make without it, late", "slip 1 d1 3 new:0 ann make new dev * 1,2,,,,", 15, 0),
		hallRefused("to make without it, which is not ok", "slip 1 d1 4 new:0 ann make new ghost b,a 1,2,,,,", 15, 0),
		hallRefused("to make without it what is there", "slip 1 d1 4 * ann make web lab * 1,2,,,,", 15, 0),
		hallRefused("to make without it what they may not", "slip 1 d1 4 new:0 eve make new dev * 1,2,,,,", 15, 0),
		hallRefused("to make without it, with no versions left", "slip 1 d1 4 new:0 ann make new dev * 1,2,,,,", 15, 0, never, stewAt(1000000)),
		hallRefused("to let it go", "slip 1 d1 4 web:13 ann letgo web fleet", 15, 0),
		hallRefused("to let it go of what ends", "slip 1 d1 4 cron:9 ann letgo cron fleet", 15, 0),
		hallRefused("to let it go of what has it not", "slip 1 d1 4 bin:12 ann letgo bin fleet", 15, 0),
		hallRefused("to let it go of nothing", "slip 1 d1 4 * ann letgo ghost fleet", 15, 0),
		hallRefused("to let it go, late", "slip 1 d1 4 web:12 ann letgo web fleet", 15, 0),
		hallRefused("to let it go, which they may not", "slip 1 d1 4 web:13 eve letgo web fleet", 15, 0),
		hallRefused("to let it go, with no versions left", "slip 1 d1 4 web:13 ann letgo web fleet", 15, 0, never, stewAt(1000000)),
		hallDone("to let another one go", "slip 1 d1 4 api:7 ann letgo api audit", 21, renewed(hallApi, holds("fleet"))),
		hallDone("to let one go that stands behind it", "slip 1 d1 4 log:10 ann letgo log zoo", 21, renewed(hallLog, holds("fleet"))),
		hallDone("to let one go of what has it not", "slip 1 d1 4 old:11 ann letgo old audit", 21, renewed(hallOld, holds())),
	})
}

// hallMade is what becomes of web's twin new, through d1, in dev.
func hallMade(holds ...string) []booksTurn {
	return []booksTurn{
		paid(0, 3), madeObject(hallOld, hallObject("new", "dev", 0, "1,2,0,1,,", holds...)),
		madeService(hallWebService, impl.StewService{Name: "new", Image: 1, Want: 2, Over: 1}),
	}
}

func TestHallDoSlips(t *testing.T) {
	api := func(values string) string { return "slip 1 d1 4 api:7 ann change api 7 " + values }
	grants := func(turn func(list []impl.GateGrant) []impl.GateGrant) booksTurn {
		return func(b *twoBooks) {
			b.Gate.Now++
			b.Gate.Given, b.Gate.Grants = b.Gate.Now, turn(spread(b.Gate.Grants))
		}
	}
	given := impl.GateGrant{Number: 21, To: "dan", By: "ann", Rule: gateRule{Verbs: []int{1, 5}, Kind: "service", Prefix: "w-"}}
	checkDoCases(t, []hallDoCase{
		hallDone("to make", "slip 1 d1 4 new:0 ann make new dev fleet 1,2,,,,", 21, hallMade("fleet")...),
		hallDone("to make with other holds, too", "slip 1 d1 4 * ann make new dev audit,fleet,zoo 1,2,0,1,,", 21, hallMade("audit", "fleet", "zoo")...),
		hallDone("to make what follows its load", "slip 1 d1 4 new:0 ann make new ops fleet 9,2,3,1,50,", 21,
			paid(1, 3), madeObject(hallOld, hallObject("new", "ops", 0, "9,2,3,1,50,", "fleet")),
			madeService(hallWebService, impl.StewService{Name: "new", Image: 9, Down: 3, Over: 1, Per: 50, Most: 2})),
		hallDone("to make what is mended", "slip 1 d1 4 new:0,web:13 ann make new ops fleet 9,1,3,,,web", 21,
			paid(1, 2), madeObject(hallOld, hallObject("new", "ops", 0, "9,1,0,1,,web", "fleet")),
			madeService(hallWebService, impl.StewService{Name: "new", Image: 9, Want: 1, Over: 1})),
		hallDone("to change", api("6,2,1,1,,"), 21, free(0, 2),
			renewed(hallApi, setValues("6", "2", "1", "1", "", "")), wished(hallApiService, func(s *impl.StewService) { s.Image, s.Want, s.Over = 6, 2, 1 })),
		hallDone("to change to what it is", "slip 1 d2 4 api:7 ann change api 0 5,3,1,2,,", 21, renewed(hallApi, func(*impl.GateObject) {}), wished(hallApiService, func(*impl.StewService) {})),
		hallDone("to have it follow its load", api("5,3,1,2,7,"), 21,
			renewed(hallApi, setValues("5", "3", "1", "2", "7", "")), wished(hallApiService, func(s *impl.StewService) { s.Per, s.Most = 7, 3 })),
		hallDone("to have it follow its load to less", api("5,2,1,2,7,"), 21, free(0, 1),
			renewed(hallApi, setValues("5", "2", "1", "2", "7", "")), wished(hallApiService, func(s *impl.StewService) { s.Per, s.Most, s.Want = 7, 2, 2 })),
		hallDone("to have it follow its load to more", api("5,7,1,2,7,"), 21, paid(0, 4),
			renewed(hallApi, setValues("5", "7", "1", "2", "7", "")), wished(hallApiService, func(s *impl.StewService) { s.Per, s.Most = 7, 7 })),
		hallDone("to have less of what follows its load", "slip 1 d1 4 db:8 ann change db 0 2,1,4,1,20,api", 21, free(0, 3),
			renewed(hallDb, setValues("2", "1", "0", "1", "20", "api")), wished(hallDbService, func(s *impl.StewService) { s.Want, s.Most, s.Per = 1, 1, 20 })),
		hallDone("to have it follow its load no longer", "slip 1 d1 4 db:8 ann change db 0 2,4,,,,", 21,
			renewed(hallDb, setValues("2", "4", "0", "1", "", "")), wished(hallDbService, func(s *impl.StewService) { s.Want, s.Most, s.Per, s.Load = 4, 0, 0, 0 })),
		hallDone("to end", "slip 1 d1 4 web:13 ann end web 13", 21, renewed(hallWeb, isEndingNow), wished(hallWebService, isGone)),
		hallDone("to end what follows its load", "slip 1 d9 4 * cy end db 0", 21, renewed(hallDb, isEndingNow), wished(hallDbService, isGone)),
		hallDone("to give", "slip 1 d1 4 * ann give dan 15 service * w-", 21, grants(func(list []impl.GateGrant) []impl.GateGrant { return append(list, given) })),
		hallDone("to take", "slip 1 d1 4 * ann take 4", 21, grants(func(list []impl.GateGrant) []impl.GateGrant { return list[:3] })),
		hallDone("to let go, by another", "slip 1 d1 4 api:7,web:13 cy letgo api audit", 21, renewed(hallApi, holds("fleet"))),
		hallDone("the last version", "slip 1 d1 4 web:13 ann end web 13", 1000000, renewed(hallWeb, isEndingNow), wished(hallWebService, isGone)).in(gateAt(999999), stewAt(999999)),
	})
}

// What GateCommit refuses is told as it tells it, and the books stay, with a 2, too.
func TestHallDoSlipsRefused(t *testing.T) {
	makes := func(values string) string { return "slip 1 d1 4 new:0 ann make new dev fleet " + values }
	grants := func(n int) booksTurn {
		return ofGate(func(g *impl.GateBook) {
			g.Grants = hallGrants(n)
			g.Grants[0].To, g.Grants[0].Rule.Verbs = "ann", []int{1, 2, 3, 4, 5}
			g.Now, g.Given = 40, n
		})
	}
	otherSeen := impl.GateSaid{Code: 5, Version: 7}
	checkDoCases(t, []hallDoCase{
		hallRefused("a team that there is not", "slip 1 d1 4 new:0 ann make new ghost fleet 1,2,,,,", 2, 0),
		hallRefused("holds that are not ascending", "slip 1 d1 4 new:0 ann make new dev fleet,audit 1,2,,,,", 2, 0),
		hallRefused("the hold twice", "slip 1 d1 4 new:0 ann make new dev fleet,fleet 1,2,,,,", 2, 0),
		hallRefused("too many holds", "slip 1 d1 4 new:0 ann make new dev a,b,c,fleet 1,2,,,,", 2, 0),
		hallRefused("too many wants", "slip 1 d1 4 a:0,b:0,c:0,d:0,e:0,f:0,g:0,h:0,i:0 ann make new dev fleet 1,2,,,,", 2, 0),
		hallRefused("a verb that is in no rule", "slip 1 d1 4 * ann give dan 6 * * *", 2, 0),
		hallRefused("verbs that are not ascending", "slip 1 d1 4 * ann give dan 21 * * *", 2, 0),
		hallRefused("the Number 0", "slip 1 d1 4 * ann take 0", 2, 0),
		hallRefused("Given below", "slip 1 d1 3 new:0 ann make new dev fleet 1,2,,,,", 12, 0),
		hallRefused("Given above", "slip 1 d1 5 new:0 ann make new dev fleet 1,2,,,,", 12, 0),
		hallRefused("a want that is there", "slip 1 d1 4 web:0 ann end web 0", 12, 1),
		hallRefused("a want that is not there", "slip 1 d1 4 web:13,new:1 ann end web 0", 12, 2),
		hallRefused("a want of another version", "slip 1 d1 4 web:13,new:0,api:6,db:1 ann end web 0", 12, 3),
		hallRefused("what is there", "slip 1 d1 4 * ann make web dev fleet 1,2,,,,", 3, 0),
		hallRefused("what is not there, to change", "slip 1 d1 4 * ann change new 0 1,2,,,,", 3, 0),
		hallRefused("what is not there, to end", "slip 1 d1 4 * ann end new 0", 3, 0),
		hallRefused("what is not there, to let go", "slip 1 d1 4 * ann letgo new audit", 3, 0),
		hallRefused("what is not there, to take", "slip 1 d1 4 * ann take 5", 3, 0),
		hallRefused("they may not make", "slip 1 d1 4 * cy make new dev fleet 1,2,,,,", 4, 0),
		hallRefused("they may not change", "slip 1 d1 4 * cy change web 0 1,2,,,,", 4, 0),
		hallRefused("they may not end, there", "slip 1 d1 4 * cy end log 0", 4, 0),
		hallRefused("they may not let go", "slip 1 d1 4 * bob letgo api audit", 4, 0),
		hallRefused("they may not give", "slip 1 d1 4 * cy give dan 3 * * *", 4, 0),
		hallRefused("they may not take", "slip 1 d1 4 * bob take 4", 4, 0),
		{what: "seen otherwise, to change", text: "slip 1 d1 4 * ann change api 6 1,2,,,,", said: otherSeen},
		{what: "seen otherwise, to end", text: "slip 1 d1 4 * ann end api 8", said: otherSeen},
		hallRefused("it is Ending, to change", "slip 1 d1 4 * ann change cron 9 1,2,,,,", 6, 0),
		hallRefused("it is Ending, to end", "slip 1 d1 4 * ann end bin 0", 6, 0),
		hallRefused("an image that does not fit", makes("1001,2,,,,"), 7, 0),
		hallRefused("no most", makes("1,,,,,"), 7, 1),
		hallRefused("an over that does not fit", "slip 1 d1 4 * ann change api 0 1,2,0,0,,", 7, 3),
		hallRefused("a value that is no decimal", makes("1,2,,,0007,"), 7, 4),
		hallRefused("a link to nothing", makes("1,2,,,,ghost"), 9, 5),
		hallRefused("a link to what ends", makes("1,2,,,,cron"), 9, 5),
		hallRefused("more than the purse has", makes("1,4,,,,"), 10, 0),
		hallRefused("no purse", "slip 1 d3 4 * ann make new dev fleet 1,2,,,,", 10, 0),
		hallRefused("no purse of the second ledger", "slip 1 d1 4 * ann make new lab fleet 1,2,,,,", 10, 1),
		hallRefused("no purse of the third ledger", "slip 1 d2 4 * ann make new ops fleet 1,2,,,,", 10, 2),
		hallRefused("more than the purse has, to change", "slip 1 d2 4 * ann change api 0 5,5,1,3,,", 10, 0),
		hallRefused("no such hold", "slip 1 d1 4 * ann letgo web audit", 11, 0),
		hallRefused("as many objects as may be", "slip 1 d1 4 * ann make new dev fleet 1,2,,,,", 11, 0, hallHeap(40)),
		hallRefused("as many grants as may be", "slip 1 d1 24 * ann give dan 1 * * *", 11, 0, grants(24)),
		hallRefused("to make, with no versions left", makes("1,2,,,,"), 11, 0, gateAt(1000000)),
		hallRefused("to end, with no versions left", "slip 1 d1 4 * ann end web 0", 11, 0, gateAt(1000000)),
	})
}

// What the stewards' book refuses is told by 14, and the gate's book is as it was, too.
func TestHallDoWishes(t *testing.T) {
	last := stewAt(1000000)
	makes, changes, ends := "slip 1 d1 4 * ann make new dev fleet 1,2,,,,", "slip 1 d1 4 * ann change api 0 6,2,1,1,,", "slip 1 d1 4 * ann end web 0"
	checkDoCases(t, []hallDoCase{
		hallRefused("to make, with no change of Stew left", makes, 14, 7, last),
		hallRefused("to change, with no change of Stew left", changes, 14, 7, last),
		hallRefused("to end, with no change of Stew left", ends, 14, 7, last),
		hallRefused("both ends met, to make", makes, 11, 0, last, gateAt(1000000)),
		hallRefused("both ends met, to change", changes, 11, 0, last, gateAt(1000000)),
		hallRefused("both ends met, to end", ends, 11, 0, last, gateAt(1000000)),
		hallDone("to let go needs no change of Stew", "slip 1 d1 4 * ann letgo api audit", 21, renewed(hallApi, holds("fleet"))).in(last),
		hallDone("to take needs none", "slip 1 d1 4 * ann take 4", 21, ofGate(func(g *impl.GateBook) { g.Now, g.Given, g.Grants = 21, 21, g.Grants[:3] })).in(last),
		hallDone("an eighth service", makes, 21, hallMade("fleet")...).in(hallCrowd(7)),
		hallRefused("a ninth service", makes, 14, 2, hallCrowd(8)),
		hallRefused("a ninth service, with no change of Stew left", makes, 14, 7, hallCrowd(8), last),
		hallRefused("a ninth service that they may not make", "slip 1 d1 4 * bob make new dev fleet 1,2,,,,", 4, 0, hallCrowd(8)),
		hallDone("a change among eight", changes, 21, free(0, 2),
			renewed(hallApi, setValues("6", "2", "1", "1", "", "")), wished(hallApiService, func(s *impl.StewService) { s.Image, s.Want, s.Over = 6, 2, 1 })).in(hallCrowd(8)),
		hallRefused("what is there, among eight", "slip 1 d1 4 * ann make web dev fleet 1,2,,,,", 3, 0, hallCrowd(8)),
	})
}

func TestHallDoPurses(t *testing.T) {
	purse := func(place int, p impl.GatePurse) booksTurn {
		return ofGate(func(g *impl.GateBook) { g.Purses = slices.Insert(slices.Clone(g.Purses), place, p) })
	}
	purses := ofGate(func(g *impl.GateBook) {
		for i := 0; len(g.Purses) < 24; i++ {
			g.Purses = append(g.Purses, impl.GatePurse{Door: "e" + string(rune('a'+i)), Team: "ops", Resource: "copies", Amount: 1, Until: 7})
			g.Ledgers[2].Most++
		}
	})
	ledgers := ofGate(func(g *impl.GateBook) {
		for i := 0; len(g.Ledgers) < 10; i++ {
			g.Ledgers = append(g.Ledgers, impl.GateLedger{Team: "ops", Resource: "r" + strconv.Itoa(i), Most: 1, Free: 1})
		}
	})
	bound := func(place, most, free int) booksTurn {
		return ofGate(func(g *impl.GateBook) { g.Ledgers[place].Most, g.Ledgers[place].Free = most, free })
	}
	both := func(b *twoBooks) { b.Gate.Now, b.Stew.Now = 1000000, 1000000 }
	checkDoCases(t, []hallDoCase{
		hallDone("to draw", "draw 1 d1 dev copies 2", 0, free(0, -2), paid(0, -2), ofGate(func(g *impl.GateBook) { g.Purses[0].Until = 15 })),
		hallDone("to draw all that is free", "draw 1 d3 dev copies 6", 0, free(0, -6), purse(3, impl.GatePurse{Door: "d3", Team: "dev", Resource: "copies", Amount: 6, Until: 15})),
		hallDone("to draw with no versions left", "draw 9 d1 lab service 1", 0, free(1, -1), purse(1, impl.GatePurse{Door: "d1", Team: "lab", Resource: "service", Amount: 1, Until: 15})).in(both),
		hallRefused("to draw of no ledger", "draw 1 d1 lab copies 1", 2, 0),
		hallRefused("to draw nothing", "draw 1 d1 dev copies 0", 2, 0),
		hallRefused("to draw too great an amount", "draw 1 d1 dev copies 1000001", 2, 0),
		hallRefused("to draw more than is free", "draw 1 d1 dev copies 7", 3, 0),
		hallRefused("to draw the greatest amount", "draw 1 d1 dev copies 1000000", 3, 0),
		hallRefused("one purse too many", "draw 1 d3 dev copies 1", 4, 0, purses),
		hallDone("no purse more", "draw 1 d2 dev copies 1", 0, free(0, -1), paid(2, -1)).in(purses),
		hallDone("to give back", "back 1 d1 ops copies", 0, free(2, 3), paid(1, 3)),
		hallDone("to give back with no versions left", "back 1 d2 dev copies", 0, free(0, 2), paid(2, 2)).in(both),
		hallRefused("to give back what nobody has", "back 1 d2 ops copies", 2, 0),
		hallRefused("to give back to no ledger", "back 1 d1 lab copies", 2, 0),
		hallDone("to bind", "bound 1 dev copies 24", 0, bound(0, 24, 0)),
		hallDone("to bind at the greatest", "bound 1 dev copies 1000000", 0, bound(0, 1000000, 999976)),
		hallDone("to bind anew", "bound 1 lab copies 8", 0, ofGate(func(g *impl.GateBook) {
			g.Ledgers = slices.Insert(slices.Clone(g.Ledgers), 1, impl.GateLedger{Team: "lab", Resource: "copies", Most: 8})
		})).in(both),
		hallRefused("to bind no team", "bound 1 ghost copies 8", 2, 0),
		hallRefused("to bind too high", "bound 1 dev copies 1000001", 2, 0),
		hallRefused("to bind below what is used", "bound 1 dev copies 23", 3, 0),
		hallRefused("to bind anew below what is used", "bound 1 lab copies 7", 3, 0),
		hallRefused("one ledger too many", "bound 1 dev gold 1", 4, 0, ledgers),
		hallDone("no ledger more", "bound 1 dev copies 24", 0, bound(0, 24, 0)).in(ledgers),
		hallDone("a tick", "time 1", 0, free(0, 4), paid(0, 4), ofGate(func(g *impl.GateBook) { g.Tick = 6 })),
		hallDone("a tick with no versions left", "time 1", 0, free(0, 4), paid(0, 4), ofGate(func(g *impl.GateBook) { g.Tick = 6 })).in(both),
		hallDone("the last tick", "time 1", 0, free(0, 4), paid(0, 4), ofGate(func(g *impl.GateBook) { g.Tick = 1000000 })).in(ofGate(func(g *impl.GateBook) { shiftTicks(g, 999999-5) })),
		hallRefused("a tick too many", "time 1", 2, 0, ofGate(func(g *impl.GateBook) { shiftTicks(g, 1000000-5) })),
	})
}

func TestHallDoSweeps(t *testing.T) {
	kept := ofObject(hallBin, holds("audit"))
	alone := ofObject(hallLog, func(o *impl.GateObject) { o.Values[5] = "" })
	owned := func(place int, by string) booksTurn {
		return ofObject(place, func(o *impl.GateObject) { o.Values[5] = by })
	}
	// The place of a marked object behind bin is another one behind the sweep.
	gone := func(b *twoBooks) {
		b.Gate.Objects = slices.Delete(slices.Clone(b.Gate.Objects), hallBin, hallBin+1)
		b.Gate.Ledgers[0].Free += 2
	}
	marks := func(object, service int) booksTurn {
		return func(b *twoBooks) {
			renewed(object, isEndingNow)(b)
			wished(service, isGone)(b)
		}
	}
	log, db, web := marks(hallLog, hallLogService), marks(hallDb, hallDbService), marks(hallWeb, hallWebService)
	checkDoCases(t, []hallDoCase{
		hallDone("one is marked, one goes", "sweep 1", 0, log, gone),
		hallDone("none is marked", "sweep 1", 0, gone).in(alone),
		hallDone("none goes", "sweep 1", 0, log).in(kept),
		hallRefused("nothing to sweep", "sweep 1", 2, 0, alone, kept),
		hallRefused("nothing to sweep, with no versions left", "sweep 1", 2, 0, alone, kept, gateAt(1000000), stewAt(1000000)),
		hallDone("three are marked, in order", "sweep 1", 0, db, log, web, gone).in(owned(hallDb, "cron"), owned(hallWeb, "cron")),
		hallDone("what is owned by what is marked is not yet", "sweep 1", 0, log, gone).in(owned(hallWeb, "log")),
		hallDone("what is Ending is not marked again", "sweep 1", 0, log, gone).in(owned(hallOld, "cron")),
		hallDone("what owns itself", "sweep 1", 0, log, gone).in(owned(hallBin, "bin")),
		hallDone("an owner stays as long as what it owns", "sweep 1", 0, db, log).in(owned(hallDb, "bin")),
		hallDone("nothing needs a version", "sweep 1", 0, gone).in(alone, gateAt(1000000), stewAt(1000000)),
		hallRefused("no versions left in Gate", "sweep 1", 3, 0, gateAt(1000000)),
		hallRefused("no versions left in both", "sweep 1", 3, 0, gateAt(1000000), stewAt(1000000)),
		hallRefused("no change of Stew left", "sweep 1", 14, 7, stewAt(1000000)),
		hallDone("the last of both", "sweep 1", 0, log, gone).in(gateAt(999999), stewAt(999999)),
		hallRefused("one change of Stew left for two", "sweep 1", 14, 7, owned(hallWeb, "cron"), stewAt(999999)),
		hallRefused("one version left for two", "sweep 1", 3, 0, owned(hallWeb, "cron"), gateAt(999999)),
		hallDone("just enough for two", "sweep 1", 0, log, web, gone).in(owned(hallWeb, "cron"), gateAt(999998), stewAt(999998)),
		hallDone("all that there may be", "sweep 1", 0, log, gone).in(hallCrowd(8), hallHeap(40)),
	})
}

// ofCopies turns the copies of these places, with the next version of the stewards' book, which their service has, too.
func ofCopies(service int, turn func(c *impl.StewCopy), places ...int) booksTurn {
	return ofStew(func(s *impl.StewBook) {
		s.Now++
		s.Services[service].Version = s.Now
		for _, place := range places {
			turn(&s.Copies[place])
			s.Copies[place].Version = s.Now
		}
	})
}

func created(place, service, many int) booksTurn {
	return ofStew(func(s *impl.StewBook) {
		of := &s.Services[service]
		for range many {
			s.Copies = slices.Insert(slices.Clone(s.Copies), place, impl.StewCopy{Service: of.Name, Number: of.Next, Version: s.Now, Image: of.Image, State: impl.StewWaiting})
			of.Next++
			place++
		}
	})
}

// dropped has cron out of the stewards' book, and the hold with it.
func dropped(left ...string) []booksTurn {
	return []booksTurn{
		ofStew(func(s *impl.StewBook) { s.Now++; s.Services = slices.Delete(slices.Clone(s.Services), 1, 2) }),
		renewed(hallCron, holds(left...)),
	}
}

func TestHallDoActs(t *testing.T) {
	ends := func(c *impl.StewCopy) { c.Ending = true }
	none := func(*impl.StewCopy) {}
	scaled := func(want, cool int) booksTurn {
		return ofService(hallDbService, func(s *impl.StewService) { s.Want, s.Cool = want, cool })
	}
	noMore := gateAt(1000000)
	crowded := ofStew(func(s *impl.StewBook) { stewCrowded(s, 200) })
	all := "act 1 cron 22 0 * * drop"
	checkDoCases(t, []hallDoCase{
		hallDone("nothing but a version", "act 1 api 21 0 * * *", 31, ofCopies(hallApiService, none)),
		hallDone("a copy more", "act 7 api 21 1 * * *", 31, ofCopies(hallApiService, none), created(3, hallApiService, 1)),
		hallDone("as many as may be", "act 1 api 21 2 * * *", 31, ofCopies(hallApiService, none), created(3, hallApiService, 2)),
		hallDone("an end", "act 1 api 21 0 * 4:5 *", 31, ofCopies(hallApiService, ends, 2)),
		hallDone("ends and creates", "act 1 api 21 2 * 4:5 *", 31, ofCopies(hallApiService, ends, 2), created(3, hallApiService, 2)),
		hallDone("a scale", "act 1 db 23 0 4:0 * *", 31, ofCopies(hallDbService, none), scaled(4, 0)),
		hallDone("a scale to nothing", "act 1 db 23 0 0:3 * *", 31, ofCopies(hallDbService, none), scaled(0, 3)),
		hallDone("all at once", "act 1 db 23 4 4:2 3:7 *", 31, ofCopies(hallDbService, ends, 4), scaled(4, 2), created(5, hallDbService, 4)),
		hallDone("with no versions left in Gate", "act 1 api 21 1 * 4:5 *", 31, ofCopies(hallApiService, ends, 2), created(3, hallApiService, 1)).in(noMore),
		hallDone("the last change", "act 1 api 21 0 * * *", 1000000, ofCopies(hallApiService, none)).in(stewAt(999999)),
		hallDone("a drop", all, 31, dropped()...),
		hallDone("a drop of what has other holds", all, 31, dropped("audit", "zoo")...).in(ofObject(hallCron, holds("audit", "fleet", "zoo"))),
		hallDone("a drop of what has a hold ahead", all, 31, dropped("audit")...).in(ofObject(hallCron, holds("audit", "fleet"))),
		hallDone("the last version of Gate", all, 31, dropped()...).in(gateAt(999999)),
		hallDone("the last change of both", all, 1000000, dropped()...).in(gateAt(999999), stewAt(999999)),
		hallRefused("a drop with no versions left in Gate", all, 11, 0, noMore),
		hallRefused("a drop with nothing left in both", all, 14, 7, noMore, stewAt(1000000)),
		hallRefused("a drop of what is not there, with none left", "act 1 new 22 0 * * drop", 14, 3, noMore),
		hallRefused("a drop seen otherwise, with none left", "act 1 cron 21 0 * * drop", 14, 4, noMore),
		hallRefused("a drop of what is not Gone", "act 1 web 25 0 * * drop", 14, 6),
		hallRefused("a drop of what is not Gone, with none left", "act 1 web 25 0 * * drop", 14, 6, noMore),
		hallRefused("a drop of what has a copy", all, 14, 6, ofStew(func(s *impl.StewBook) {
			s.Copies = slices.Insert(slices.Clone(s.Copies), 3, impl.StewCopy{Service: "cron", Number: 1, Version: 1, Image: 1, State: impl.StewWaiting, Ending: true})
		})),
		hallRefused("a drop that creates", "act 1 cron 22 1 * * drop", 14, 2),
		hallRefused("a drop that scales", "act 1 cron 22 0 0:0 * drop", 14, 2),
		hallRefused("a drop that ends", "act 1 cron 22 0 * 1:1 drop", 14, 2),
		hallRefused("too many to create", "act 1 api 21 21 * * *", 14, 2),
		hallRefused("ends that are not ascending", "act 1 web 25 0 * 4:10,3:9 *", 14, 2),
		hallRefused("a Want out of its bounds", "act 1 db 23 0 11:0 * *", 14, 2),
		hallRefused("a Cool out of its bounds", "act 1 db 23 0 4:4 * *", 14, 2),
		hallRefused("no such service", "act 1 bin 12 0 * * *", 14, 3),
		hallRefused("no such copy", "act 1 web 25 0 * 2:9 *", 14, 3),
		hallRefused("a service seen otherwise", "act 1 web 24 0 * * *", 14, 4),
		hallRefused("a copy seen otherwise", "act 1 web 25 0 * 5:10 *", 14, 4),
		hallRefused("one that may not end", "act 1 web 25 0 * 3:9 *", 14, 5),
		hallRefused("one more than may be", "act 1 api 21 3 * * *", 14, 6),
		hallRefused("to create what is Gone", "act 1 cron 22 1 * * *", 14, 6),
		hallRefused("to scale what does not follow its load", "act 1 web 25 0 2:0 * *", 14, 6),
		hallRefused("to scale above Most", "act 1 db 23 0 5:0 * *", 14, 6),
		hallRefused("too many copies", "act 1 api 21 1 * * *", 14, 7, crowded),
		hallRefused("a Next at its end", "act 1 api 21 1 * * *", 14, 7, ofService(hallApiService, func(s *impl.StewService) { s.Next = 1000000 })),
		hallRefused("no change of Stew left", "act 1 api 21 0 * * *", 14, 7, stewAt(1000000)),
	})
}

func TestHallDoSea(t *testing.T) {
	now := ofStew(func(s *impl.StewBook) { s.Now++ })
	ready := ofStew(func(s *impl.StewBook) {
		s.Copies[4].State, s.Copies[4].Version = impl.StewReady, s.Now
		s.Copies[8].State, s.Copies[8].Version, s.Copies[8].Berth = impl.StewStarting, s.Now, "b1"
	})
	berths := func(list ...impl.StewBerth) booksTurn { return ofStew(func(s *impl.StewBook) { s.Berths = list }) }
	many := berths(impl.StewBerth{Name: "b1"}, impl.StewBerth{Name: "b2"}, impl.StewBerth{Name: "b3"}, impl.StewBerth{Name: "b4"}, impl.StewBerth{Name: "b5"}, impl.StewBerth{Name: "b6"})
	loaded := func(load int) booksTurn {
		return wished(hallDbService, func(s *impl.StewService) { s.Load = load })
	}
	cool := ofService(hallDbService, func(s *impl.StewService) { s.Cool = 1 })
	failed := func(place int) booksTurn {
		return ofStew(func(s *impl.StewBook) { s.Copies[place].State, s.Copies[place].Version = impl.StewFailed, s.Now })
	}
	checkDoCases(t, []hallDoCase{
		hallDone("a tick", "sea 1 tick", 31, now, ready),
		hallDone("a tick with no versions left in Gate", "sea 1 tick", 31, now, ready).in(gateAt(1000000)),
		hallDone("the last change", "sea 1 tick", 1000000, now, ready).in(stewAt(999999)),
		hallDone("a copy fails", "sea 1 fails web 3", 31, now, failed(6)),
		hallDone("a starting one fails", "sea 1 fails db 3", 31, now, failed(4)),
		hallDone("a berth sinks", "sea 1 sink b2", 31, now, berths(impl.StewBerth{Name: "b1"}), ofStew(func(s *impl.StewBook) {
			s.Copies = slices.DeleteFunc(slices.Clone(s.Copies), func(c impl.StewCopy) bool { return c.Berth == "b2" })
		})),
		hallDone("a berth is raised", "sea 1 raise b0", 31, now, berths(impl.StewBerth{Name: "b0"}, impl.StewBerth{Name: "b1"}, impl.StewBerth{Name: "b2", Drain: true})),
		hallDone("a berth is raised again", "sea 1 raise b2", 31, now, berths(impl.StewBerth{Name: "b1"}, impl.StewBerth{Name: "b2"})),
		hallDone("a berth is to be drained", "sea 1 drain b1", 31, now, berths(impl.StewBerth{Name: "b1", Drain: true}, impl.StewBerth{Name: "b2", Drain: true})),
		hallDone("a berth is raised to be drained", "sea 1 drain b3", 31, now, berths(impl.StewBerth{Name: "b1"}, impl.StewBerth{Name: "b2", Drain: true}, impl.StewBerth{Name: "b3", Drain: true})),
		hallDone("a load", "sea 1 load db 99", 31, loaded(99), cool),
		hallDone("no load", "sea 1 load db 0", 31, loaded(0), cool),
		hallDone("the greatest load", "sea 1 load db 1000000", 31, loaded(1000000), cool),
		hallRefused("too great a load", "sea 1 load db 1000001", 14, 2),
		hallRefused("a load of what does not follow it", "sea 1 load web 1", 14, 3),
		hallRefused("a load of nothing", "sea 1 load bin 1", 14, 3),
		hallRefused("no such copy", "sea 1 fails web 2", 14, 3),
		hallRefused("a copy that waits", "sea 1 fails web 5", 14, 3),
		hallRefused("a copy of no service", "sea 1 fails bin 1", 14, 3),
		hallRefused("no such berth", "sea 1 sink b3", 14, 3),
		hallRefused("one berth too many", "sea 1 raise b7", 14, 2, many),
		hallRefused("one berth too many, to be drained", "sea 1 drain a", 14, 2, many),
		hallRefused("no change left", "sea 1 tick", 14, 7, stewAt(1000000)),
		hallRefused("no change left, and nothing to fail", "sea 1 fails web 2", 14, 7, stewAt(1000000)),
		hallRefused("no change left in both", "sea 1 raise b1", 14, 7, stewAt(1000000), gateAt(1000000)),
	})
}
