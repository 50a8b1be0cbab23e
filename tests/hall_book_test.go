package tests

import (
	"cmp"
	"slices"
	"strconv"
	"strings"
	"testing"

	"loop.example/wharfdesk/impl"
)

type (
	twoBooks  = impl.HallBook
	booksTurn = func(b *impl.HallBook)
)

// Places of the objects and of the services of hallBooks.
const (
	hallApi = iota
	hallBin
	hallCron
	hallDb
	hallLog
	hallOld
	hallWeb
)

const (
	hallApiService = iota
	hallCronService
	hallDbService
	hallLogService
	hallWebService
)

func hallObject(name, team string, version int, values string, holds ...string) impl.GateObject {
	return impl.GateObject{Kind: "service", Name: name, Team: team, Values: strings.Split(values, ","), Holds: holds, Version: version}
}

// hallBooks are ok in hallHouse. A sweep would mark log, which cron owns, and let bin go; cron has no copies left; db follows its load.
func hallBooks() twoBooks {
	isEnding := func(o impl.GateObject) impl.GateObject {
		o.Ending = true
		return o
	}
	of := func(service string, number, version, image, state int, berth string) impl.StewCopy {
		return impl.StewCopy{Service: service, Number: number, Version: version, Image: image, State: state, Berth: berth}
	}
	b := twoBooks{
		Gate: impl.GateBook{
			Now: 20, Tick: 5, Given: 4,
			Grants: append(hallHouse().Grants, impl.GateGrant{Number: 4, To: "cy", By: "ann", Rule: impl.GateRule{Verbs: []int{3, 4}, Team: "dev"}}),
			Objects: []impl.GateObject{
				hallObject("api", "dev", 7, "5,3,1,2,,", "audit", "fleet"),
				isEnding(hallObject("bin", "dev", 12, "1,1,0,1,,")),
				isEnding(hallObject("cron", "ops", 9, "1,1,0,1,,", "fleet")),
				hallObject("db", "lab", 8, "2,4,0,1,10,api", "fleet"),
				hallObject("log", "ops", 10, "3,2,0,1,,cron", "fleet", "zoo"),
				isEnding(hallObject("old", "dev", 11, "1,2,0,1,,", "audit")),
				hallObject("web", "lab", 13, "4,2,0,1,,", "fleet"),
			},
			Ledgers: []impl.GateLedger{{Team: "dev", Resource: "copies", Most: 30}, {Team: "lab", Resource: "service", Most: 4}, {Team: "ops", Resource: "copies", Most: 10}},
			Purses: []impl.GatePurse{
				{Door: "d1", Team: "dev", Resource: "copies", Amount: 4, Until: 5},
				{Door: "d1", Team: "ops", Resource: "copies", Amount: 3, Until: 9},
				{Door: "d2", Team: "dev", Resource: "copies", Amount: 2, Until: 15},
			},
		},
		Stew: impl.StewBook{
			Now: 30,
			Services: []impl.StewService{
				{Name: "api", Version: 21, Image: 5, Want: 3, Down: 1, Over: 2, Next: 5},
				{Name: "cron", Version: 22, Gone: true, Image: 1, Want: 1, Over: 1, Next: 3},
				{Name: "db", Version: 23, Image: 2, Want: 2, Over: 1, Next: 4, Per: 10, Most: 4, Load: 15, Cool: 1},
				{Name: "log", Version: 24, Image: 3, Want: 2, Over: 1, Next: 3},
				{Name: "web", Version: 25, Image: 4, Want: 2, Over: 1, Next: 6},
			},
			Copies: []impl.StewCopy{
				of("api", 1, 3, 5, impl.StewReady, "b1"), of("api", 2, 4, 4, impl.StewReady, "b2"), of("api", 4, 5, 5, impl.StewFailed, "b1"),
				of("db", 2, 6, 2, impl.StewReady, "b1"), of("db", 3, 7, 2, impl.StewStarting, "b2"),
				of("log", 1, 8, 3, impl.StewReady, "b1"),
				of("web", 3, 9, 4, impl.StewReady, "b2"), of("web", 4, 10, 4, impl.StewReady, "b1"), of("web", 5, 11, 4, impl.StewWaiting, ""),
			},
			Berths: []impl.StewBerth{{Name: "b1"}, {Name: "b2", Drain: true}},
		},
	}
	settle(hallLawOf(hallHouse().Teams), &b.Gate)
	return b
}

// hallTurned is hallBooks, turned.
func hallTurned(turns ...booksTurn) twoBooks {
	b := spread(hallBooks())
	for _, turn := range turns {
		turn(&b)
	}
	return b
}

// hallIsTied is the document's sentence on when books are tied.
func hallIsTied(b twoBooks) bool {
	var services, held texts
	objects := map[string]impl.GateObject{}
	for _, o := range b.Gate.Objects {
		objects[o.Name] = o
		if slices.Contains(o.Holds, "fleet") {
			held = append(held, o.Name)
		} else if !o.Ending {
			return false
		}
	}
	for _, s := range b.Stew.Services {
		services = append(services, s.Name)
		bare := s
		bare.Version, bare.Next, bare.Cool = 0, 0, 0
		if hallServiceOf(objects[s.Name], s) != bare {
			return false
		}
	}
	slices.Sort(held)
	slices.Sort(services)
	return slices.Equal(services, held)
}

// hallIsOk is the document's sentence on when books are ok.
func hallIsOk(h house, b twoBooks) bool {
	return hallHouseIsOk(h) && bookIsOk(hallLawOf(h.Teams), b.Gate) && stewIsValid(b.Stew) && hallIsTied(b)
}

func checkHallOk(t *testing.T, what string, h house, b twoBooks, ok bool) {
	t.Helper()
	h, b = spread(h), spread(b)
	ahead, before := whole(h), whole(b)
	if got := impl.HallOk(h, b); got != ok || hallIsOk(h, b) != ok {
		t.Errorf("%s: ok: %v, read: %v", what, got, hallIsOk(h, b))
	}
	if !same(whole(h), ahead) || !same(whole(b), before) {
		t.Errorf("%s: an argument is changed", what)
	}
}

func ofObject(place int, turn func(o *impl.GateObject)) booksTurn {
	return func(b *twoBooks) { turn(&b.Gate.Objects[place]) }
}

func ofService(place int, turn func(s *impl.StewService)) booksTurn {
	return func(b *twoBooks) { turn(&b.Stew.Services[place]) }
}

func ofGate(turn func(g *impl.GateBook)) booksTurn {
	return func(b *twoBooks) { turn(&b.Gate) }
}

func ofStew(turn func(s *impl.StewBook)) booksTurn {
	return func(b *twoBooks) { turn(&b.Stew) }
}

func noService(place int) booksTurn {
	return func(b *twoBooks) {
		name := b.Stew.Services[place].Name
		b.Stew.Services = slices.Delete(b.Stew.Services, place, place+1)
		b.Stew.Copies = slices.DeleteFunc(b.Stew.Copies, func(c impl.StewCopy) bool { return c.Service == name })
	}
}

func holds(list ...string) func(o *impl.GateObject) {
	return func(o *impl.GateObject) { o.Holds = list }
}

// Both books are ok by themselves in all of these.
func TestHallOkTied(t *testing.T) {
	ends := func(o *impl.GateObject) { o.Ending = true }
	gone := func(s *impl.StewService) { s.Gone = true }
	// What weighs changes the sums of the ledgers.
	values := func(place int, text string) booksTurn {
		return func(b *twoBooks) {
			b.Gate.Objects[place].Values = strings.Split(text, ",")
			settle(hallLawOf(hallHouse().Teams), &b.Gate)
		}
	}
	for _, c := range []struct {
		what  string
		ok    bool
		turns []booksTurn
	}{
		{"books", true, nil},
		{"no books", true, []booksTurn{func(b *twoBooks) { *b = twoBooks{} }}},
		{"no objects, no services", true, []booksTurn{func(b *twoBooks) { *b = twoBooks{Gate: impl.GateBook{Now: 1}, Stew: impl.StewBook{Now: 2}} }}},
		{"services without objects", false, []booksTurn{func(b *twoBooks) { b.Gate = impl.GateBook{} }}},
		{"objects without services", false, []booksTurn{func(b *twoBooks) { b.Stew = impl.StewBook{} }}},
		{"a service without an object", false, []booksTurn{ofStew(func(s *impl.StewBook) {
			s.Services = append(s.Services, impl.StewService{Name: "zed", Version: 1, Image: 1, Want: 1, Over: 1, Next: 1})
		})}},
		{"a service without an object ahead of all others", false, []booksTurn{ofStew(func(s *impl.StewBook) {
			s.Services = slices.Insert(s.Services, 0, impl.StewService{Name: "a", Version: 1, Image: 1, Want: 1, Over: 1, Next: 1})
		})}},
		{"a service of an object that has not the hold", false, []booksTurn{ofStew(func(s *impl.StewBook) {
			s.Services = slices.Insert(s.Services, 1, impl.StewService{Name: "bin", Version: 1, Gone: true, Image: 1, Want: 1, Over: 1, Next: 1})
		})}},
		{"that service, with the hold", true, []booksTurn{ofObject(hallBin, holds("fleet")), ofStew(func(s *impl.StewBook) {
			s.Services = slices.Insert(s.Services, 1, impl.StewService{Name: "bin", Version: 1, Gone: true, Image: 1, Want: 1, Over: 1, Next: 1})
		})}},
		{"the hold without a service, Ending", false, []booksTurn{noService(hallCronService)}},
		{"the hold without a service, not Ending", false, []booksTurn{noService(hallWebService)}},
		{"the first hold without a service", false, []booksTurn{noService(hallApiService)}},
		{"neither hold nor service, Ending", true, []booksTurn{noService(hallCronService), ofObject(hallCron, holds())}},
		{"another hold alone, Ending", true, []booksTurn{noService(hallCronService), ofObject(hallCron, holds("fleet2"))}},
		{"neither hold nor service, not Ending", false, []booksTurn{noService(hallWebService), ofObject(hallWeb, holds())}},
		{"another hold alone, not Ending", false, []booksTurn{noService(hallWebService), ofObject(hallWeb, holds("fleets"))}},
		{"a service, and no hold, Ending", false, []booksTurn{ofObject(hallCron, holds())}},
		{"a service, and no hold, not Ending", false, []booksTurn{ofObject(hallWeb, holds())}},
		{"a service, and another hold", false, []booksTurn{ofObject(hallCron, holds("flee", "fleet-"))}},
		{"the hold among others", true, []booksTurn{ofObject(hallWeb, holds("a", "fleet", "z"))}},
		{"no hold of one that is Ending, but of another", true, []booksTurn{ofObject(hallBin, holds("a", "z"))}},
		{"not Ending without the hold", false, []booksTurn{ofObject(hallOld, func(o *impl.GateObject) { o.Ending = false })}},
		{"an object that ends, and its service does not", false, []booksTurn{ofObject(hallWeb, ends)}},
		{"a service that is Gone, and its object is not Ending", false, []booksTurn{ofService(hallWebService, gone)}},
		{"both end", true, []booksTurn{ofObject(hallWeb, ends), ofService(hallWebService, gone)}},
		{"an object's image", false, []booksTurn{values(hallWeb, "5,2,0,1,,")}},
		{"an object's most", false, []booksTurn{values(hallWeb, "4,3,0,1,,")}},
		{"an object's down", false, []booksTurn{values(hallWeb, "4,2,1,1,,")}},
		{"an object's over", false, []booksTurn{values(hallWeb, "4,2,0,2,,")}},
		{"an object's per", false, []booksTurn{values(hallWeb, "4,2,0,1,5,")}},
		{"an object's of", true, []booksTurn{values(hallWeb, "4,2,0,1,,api")}},
		{"a most below the Want", false, []booksTurn{values(hallDb, "2,1,0,1,10,api"), ofService(hallDbService, func(s *impl.StewService) { s.Most = 1 })}},
		{"a most at the Want", true, []booksTurn{values(hallDb, "2,2,0,1,10,api"), ofService(hallDbService, func(s *impl.StewService) { s.Most = 2 })}},
		{"a service of an object of another team", true, []booksTurn{func(b *twoBooks) {
			b.Gate.Objects[hallWeb].Team = "dev"
			settle(hallLawOf(hallHouse().Teams), &b.Gate)
		}}},
	} {
		b := hallTurned(c.turns...)
		if !bookIsOk(hallLawOf(hallHouse().Teams), b.Gate) || !stewIsValid(b.Stew) {
			t.Errorf("%s: not ok by itself: %+v", c.what, b)
		}
		checkHallOk(t, c.what, hallHouse(), b, c.ok)
	}
}

// A service that differs from its object in one field; its own are Version, Next and Cool, and, as far as it follows its load, Want and Load.
func TestHallOkFields(t *testing.T) {
	count := 0
	for _, c := range []struct {
		field    string
		plain    bool
		follower bool
		turn     func(s *impl.StewService)
	}{
		{"Version", true, true, func(s *impl.StewService) { s.Version = 30 }},
		{"Version", true, true, func(s *impl.StewService) { s.Version = 1 }},
		{"Next", true, true, func(s *impl.StewService) { s.Next = 1000000 }},
		{"Gone", false, false, func(s *impl.StewService) { s.Gone = !s.Gone }},
		{"Image", false, false, func(s *impl.StewService) { s.Image++ }},
		{"Want less", false, true, func(s *impl.StewService) { s.Want-- }},
		{"no Want", false, true, func(s *impl.StewService) { s.Want = 0 }},
		{"Want more", false, true, func(s *impl.StewService) { s.Want++ }},
		{"the most Want", false, false, func(s *impl.StewService) { s.Want = 10 }},
		{"Down", false, false, func(s *impl.StewService) { s.Down++ }},
		{"Over", false, false, func(s *impl.StewService) { s.Over++ }},
		{"Per", false, false, func(s *impl.StewService) { s.Per++ }},
	} {
		for _, of := range []struct {
			place int
			ok    bool
		}{{hallApiService, c.plain}, {hallLogService, c.plain}, {hallWebService, c.plain}, {hallDbService, c.follower}} {
			b := hallTurned(ofService(of.place, c.turn))
			if !stewIsValid(b.Stew) {
				t.Errorf("%s: not valid by itself: %+v", c.field, b.Stew)
			}
			checkHallOk(t, c.field+" of "+b.Stew.Services[of.place].Name, hallHouse(), b, of.ok)
			count++
		}
	}
	for _, c := range []struct {
		field string
		ok    bool
		turn  func(s *impl.StewService)
	}{
		{"Load", true, func(s *impl.StewService) { s.Load = 1000000 }},
		{"no Load", true, func(s *impl.StewService) { s.Load = 0 }},
		{"Cool", true, func(s *impl.StewService) { s.Cool = 3 }},
		{"no Cool", true, func(s *impl.StewService) { s.Cool = 0 }},
		{"Least", false, func(s *impl.StewService) { s.Least = 1 }},
		{"Least up to Most", false, func(s *impl.StewService) { s.Least = 4 }},
		{"Most less", false, func(s *impl.StewService) { s.Most-- }},
		{"Most more", false, func(s *impl.StewService) { s.Most++ }},
		{"Want at Most", true, func(s *impl.StewService) { s.Want = 4 }},
		{"Want above Most", false, func(s *impl.StewService) { s.Want = 5 }},
		{"no Per", false, func(s *impl.StewService) { s.Per, s.Most, s.Load, s.Cool = 0, 0, 0, 0 }},
		{"no Per, and as much Want as most", false, func(s *impl.StewService) { s.Want, s.Per, s.Most, s.Load, s.Cool = 4, 0, 0, 0, 0 }},
	} {
		b := hallTurned(ofService(hallDbService, c.turn))
		if !stewIsValid(b.Stew) {
			t.Errorf("%s: not valid by itself: %+v", c.field, b.Stew)
		}
		checkHallOk(t, c.field, hallHouse(), b, c.ok)
		count++
	}
	if count != 12*4+12 {
		t.Errorf("%d", count)
	}
	swapped := hallTurned(func(b *twoBooks) {
		services := b.Stew.Services
		services[hallLogService], services[hallWebService] = services[hallWebService], services[hallLogService]
		services[hallLogService].Name, services[hallWebService].Name = "log", "web"
	})
	checkHallOk(t, "services with one another's fields", hallHouse(), swapped, false)
}

// What is not ok by itself is not ok, tied or not.
func TestHallOkByThemselves(t *testing.T) {
	inHouse := func(turn func(h *house)) house {
		h := spread(hallHouse())
		turn(&h)
		return h
	}
	checkHallOk(t, "no house", house{}, twoBooks{}, true)
	checkHallOk(t, "a house without these teams", house{Grants: hallHouse().Grants}, hallBooks(), false)
	checkHallOk(t, "a house without grants", house{Teams: hallHouse().Teams}, hallBooks(), true)
	checkHallOk(t, "other grants", house{Teams: hallHouse().Teams, Grants: hallGrants(24)}, hallBooks(), true)
	for what, h := range map[string]house{
		"teams turned around":          inHouse(func(h *house) { slices.Reverse(h.Teams) }),
		"a grant By somebody":          inHouse(func(h *house) { h.Grants[0].By = "ann" }),
		"a grant without verbs":        inHouse(func(h *house) { h.Grants[1].Rule.Verbs = nil }),
		"Numbers that leave one out":   inHouse(func(h *house) { h.Grants[2].Number = 4 }),
		"as many grants as may be + 1": {Teams: hallHouse().Teams, Grants: hallGrants(25)},
	} {
		checkHallOk(t, what, h, hallBooks(), false)
		checkHallOk(t, what, h, impl.HallFirst(h), false)
		checkHallOk(t, what, h, twoBooks{}, false)
	}
	checkHallOk(t, "the first books", hallHouse(), impl.HallFirst(hallHouse()), true)
	for what, turn := range map[string]booksTurn{
		"Gate's Now":            ofGate(func(g *impl.GateBook) { g.Now = 12 }),
		"Gate's Now too great":  ofGate(func(g *impl.GateBook) { g.Now = 1000001 }),
		"Gate's Tick":           ofGate(func(g *impl.GateBook) { g.Tick = 6 }),
		"Gate's Given":          ofGate(func(g *impl.GateBook) { g.Given = 3 }),
		"an object's Kind":      ofObject(hallWeb, func(o *impl.GateObject) { o.Kind = "services" }),
		"an object's Team":      ofObject(hallWeb, func(o *impl.GateObject) { o.Team = "ghost" }),
		"an object's Version":   ofObject(hallWeb, func(o *impl.GateObject) { o.Version = 21 }),
		"an object's values":    ofObject(hallBin, func(o *impl.GateObject) { o.Values = o.Values[:5] }),
		"a value with a zero":   ofObject(hallWeb, func(o *impl.GateObject) { o.Values[2] = "00" }),
		"a link to nothing":     ofObject(hallDb, func(o *impl.GateObject) { o.Values[5] = "ghost" }),
		"what a mend would do":  ofObject(hallBin, func(o *impl.GateObject) { o.Values[2] = "1" }),
		"objects in no order":   ofGate(func(g *impl.GateBook) { g.Objects[1], g.Objects[5] = g.Objects[5], g.Objects[1] }),
		"a ledger's Free":       ofGate(func(g *impl.GateBook) { g.Ledgers[0].Free++ }),
		"a purse's Amount":      ofGate(func(g *impl.GateBook) { g.Purses[2].Amount-- }),
		"Stew's Now":            ofStew(func(s *impl.StewBook) { s.Now = 24 }),
		"Stew's Now too great":  ofStew(func(s *impl.StewBook) { s.Now = 1000001 }),
		"a service's Version":   ofService(hallApiService, func(s *impl.StewService) { s.Version = 0 }),
		"a service's Next":      ofService(hallApiService, func(s *impl.StewService) { s.Next = 4 }),
		"a service's Cool":      ofService(hallDbService, func(s *impl.StewService) { s.Cool = 4 }),
		"Cool without Per":      ofService(hallApiService, func(s *impl.StewService) { s.Cool = 1 }),
		"a service's Load":      ofService(hallDbService, func(s *impl.StewService) { s.Load = 1000001 }),
		"services in no order":  ofStew(func(s *impl.StewBook) { stewSwap(s.Services, 0, 1) }),
		"a copy of no service":  ofStew(func(s *impl.StewBook) { s.Copies[0].Service = "aaa" }),
		"a copy's berth":        ofStew(func(s *impl.StewBook) { s.Copies[0].Berth = "b3" }),
		"a berth twice":         ofStew(func(s *impl.StewBook) { s.Berths[1].Name = "b1" }),
		"a copy that was twice": ofStew(func(s *impl.StewBook) { s.Copies[1].Number = 1 }),
	} {
		checkHallOk(t, what, hallHouse(), hallTurned(turn), false)
	}
	checkHallOk(t, "both ends met", hallHouse(), hallTurned(func(b *twoBooks) { b.Gate.Now, b.Stew.Now = 1000000, 1000000 }), true)
}

// hallCrowd puts as many services into the books as are told, with their objects; the house's ledgers count them.
func hallCrowd(services int) booksTurn {
	return func(b *twoBooks) {
		for i := 0; len(b.Stew.Services) < services; i++ {
			name := "x" + strconv.Itoa(i)
			b.Gate.Objects = append(b.Gate.Objects, hallObject(name, "ops", 1, "1,0,0,1,,", "fleet"))
			b.Stew.Services = append(b.Stew.Services, impl.StewService{Name: name, Version: 1, Image: 1, Over: 1, Next: 1})
		}
		hallSettle(b)
	}
}

// hallHeap puts as many objects into the books as are told; those that come to it are Ending.
func hallHeap(objects int) booksTurn {
	return func(b *twoBooks) {
		for i := 0; len(b.Gate.Objects) < objects; i++ {
			o := hallObject("y"+strconv.Itoa(i), "ops", 1, "1,0,0,1,,", "audit")
			o.Ending = true
			b.Gate.Objects = append(b.Gate.Objects, o)
		}
		hallSettle(b)
	}
}

// hallSettle sorts the objects and gives each ledger as much more as there is used more.
func hallSettle(b *twoBooks) {
	slices.SortFunc(b.Gate.Objects, func(x, y impl.GateObject) int { return cmp.Compare(x.Name, y.Name) })
	free := spread(b.Gate.Ledgers)
	settle(hallLawOf(hallHouse().Teams), &b.Gate)
	for i := range b.Gate.Ledgers {
		ledger := &b.Gate.Ledgers[i]
		ledger.Most += free[i].Free - ledger.Free
		ledger.Free = free[i].Free
	}
}

func TestHallOkMany(t *testing.T) {
	checkHallOk(t, "as many services as may be", hallHouse(), hallTurned(hallCrowd(8)), true)
	checkHallOk(t, "a service more", hallHouse(), hallTurned(hallCrowd(9)), false)
	checkHallOk(t, "as many objects as may be", hallHouse(), hallTurned(hallHeap(40)), true)
	checkHallOk(t, "an object more", hallHouse(), hallTurned(hallHeap(41)), false)
	checkHallOk(t, "as many of both", hallHouse(), hallTurned(hallCrowd(8), hallHeap(40)), true)
}
