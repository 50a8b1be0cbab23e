package tests

import (
	"math"
	"slices"
	"strconv"
	"strings"
	"testing"

	"loop.example/wharfdesk/impl"
)

// names are those that a desk looks after, read once more from the document.
func (r deskReading) names() texts {
	if !r.ok {
		return nil
	}
	var list texts
	for _, w := range r.plan.Wants {
		list = append(list, w.Name)
	}
	for _, o := range r.plan.Odds {
		list = append(list, o.Name)
	}
	for _, o := range r.b.Gate.Objects {
		if strings.HasPrefix(o.Name, r.d.Prefix) {
			list = append(list, o.Name)
		}
	}
	slices.Sort(list)
	return slices.Compact(list)
}

// needs is what a desk needs of a ledger: what a door without purses would lack for all that is to be asked.
func (r deskReading) needs(team, resource string) int {
	sum := 0
	for _, name := range r.names() {
		a, is := r.asks(name)
		if !is {
			continue
		}
		for i, lack := range deskLacksBy(r.h, r.b, "", a) {
			if r.b.Gate.Ledgers[i].Team == team && r.b.Gate.Ledgers[i].Resource == resource {
				sum += lack
			}
		}
	}
	return sum
}

// next is the document's sentence on what a desk brings in.
func (r deskReading) next(number int) (entry, bool) {
	if !r.ok || number < 1 || number > 1000000 {
		return entry{}, false
	}
	for _, p := range r.b.Gate.Purses {
		if p.Door == r.d.Door && p.Amount > r.needs(p.Team, p.Resource) {
			return entry{Kind: 3, Number: number, Door: p.Door, Team: p.Team, Resource: p.Resource}, true
		}
	}
	for _, name := range r.names() {
		if e, code := r.tries(name, number); code == 0 {
			return e, true
		}
	}
	return entry{}, false
}

// deskLooks asks something of a desk, and says that no argument is changed, and that the answer is new.
func deskLooks[T any](t *testing.T, what string, r deskReading, look func(house, twoBooks, desk) T) T {
	t.Helper()
	h, b := spread(r.h), spread(r.b)
	houseWas, booksWere := whole(h), whole(b)
	got := look(h, b, r.d)
	if !same(whole(h), houseWas) || !same(whole(b), booksWere) {
		t.Errorf("%s: an argument is changed", what)
	}
	newMemory(t, what, got, h, b, look(h, b, r.d))
	return got
}

func checkDeskNames(t *testing.T, what string, r deskReading, want ...string) {
	t.Helper()
	got := deskLooks(t, what, r, impl.DeskNames)
	if !slices.Equal(got, want) {
		t.Errorf("%s: it looks after %q, not %q", what, got, want)
	}
	if read := r.names(); !slices.Equal(read, want) {
		t.Errorf("%s: it is read that it looks after %q, not %q", what, read, want)
	}
}

// deskTells is what is told, and whether something is.
type deskTells struct {
	Entry entry
	Is    bool
}

// checkDeskNext says what a desk brings in, by its form; nothing by the empty one.
func checkDeskNext(t *testing.T, what string, r deskReading, number int, form string) {
	t.Helper()
	got := deskLooks(t, what, r, func(h house, b twoBooks, d desk) deskTells {
		e, is := impl.DeskNext(h, b, d, number)
		return deskTells{e, is}
	})
	if got.Is != (form != "") || impl.HallForm(got.Entry) != form || !got.Is && !same(got.Entry, entry{}) {
		t.Errorf("%s: what is next is %+v, not %q", what, got, form)
	}
	if read, is := r.next(number); is != got.Is || !same(read, got.Entry) {
		t.Errorf("%s: it is read that %+v is next, %v, not %+v", what, read, is, got)
	}
}

// deskAsIs says all of hallBooks as it is, but what is to be gone.
func deskAsIs() map[string]string {
	return map[string]string{"api": "dev 5,3,1,2,,", "db": "lab 2,4,0,1,10,", "log": "ops 3,2,0,1,,", "web": "lab 4,2,0,1,,"}
}

// deskBut is the text of a sheet that says all as it is, but for some services, a team and values each, or `odd`, or `no` for one that it does not say.
func deskBut(services ...string) string {
	said := deskAsIs()
	for _, service := range services {
		name, as, _ := strings.Cut(service, " ")
		said[name] = as
	}
	text := ""
	for name, as := range said {
		switch as {
		case "odd":
			text += deskBlock(name)
		case "no":
		default:
			text += deskText(name + " " + as)
		}
	}
	return text
}

func TestDeskNames(t *testing.T) {
	long := letters(17)
	first := impl.HallFirst(hallHouse())
	for _, c := range []struct {
		what   string
		prefix string
		text   string
		want   string
		with   []booksTurn
	}{
		{"objects alone", "", "", "api bin cron db log old web", nil},
		{"objects alone that are as they are said", "", deskBut(), "api bin cron db log old web", nil},
		{"wanted alone", "n", deskText("new dev 1,1,0,1,,", "nea lab 1,1,0,1,,", "other dev 1,1,0,1,,"), "nea new", nil},
		{"odd alone", "n", deskBlock("new") + deskBlock("nea") + deskBlock("odd"), "nea new", nil},
		{"too long alone", letters(16), deskBlock(long), long, nil},
		{"wanted and odd in turns", "n", deskBlock("na") + deskText("nb dev 1,1,0,1,,") + deskBlock("nc") + deskText("nd dev 1,1,0,1,,"), "na nb nc nd", nil},
		{"wanted ahead of odd", "n", deskText("na dev 1,1,0,1,,", "nb dev 1,1,0,1,,") + deskBlock("nc"), "na nb nc", nil},
		{"wanted and there", "a", deskText("api lab 1,1,0,1,,"), "api", nil},
		{"odd and there", "a", deskBlock("api"), "api", nil},
		{"all at once", "", deskText("api dev 1,1,0,1,,", "zed dev 1,1,0,1,,") + deskBlock("aaa") + deskBlock("db") + deskBlock(long), "aaa " + long + " api bin cron db log old web zed", nil},
		{"a beginning of what is there is wanted", "a", deskText("ap dev 1,1,0,1,,"), "ap api", nil},
		{"what goes on from what is there is wanted", "a", deskText("apis dev 1,1,0,1,,"), "api apis", nil},
		{"a beginning of what is there is odd", "a", deskBlock("ap"), "ap api", nil},
		{"what goes on from what is there is odd", "a", deskBlock("apis"), "api apis", nil},
		{"Ending", "o", "", "old", nil},
		{"Ending, held no more", "b", "", "bin", nil},
		{"Ending, and wanted", "c", deskText("cron ops 1,1,0,1,,"), "cron", nil},
		{"a whole name", "web", "", "web", nil},
		{"a whole name, and more is wanted", "web", deskText("web-1 dev 1,1,0,1,,", "we dev 1,1,0,1,,") + deskBlock("webs"), "web web-1 webs", nil},
		{"more than a name", "web-", "", "", nil},
		{"nothing begins so", "x", deskText("a-x dev 1,1,0,1,,") + deskBlock("ax"), "", nil},
		{"other blocks", "t", "team top\nend\nberth tall\nend\n", "", nil},
		{"many objects", "y", "", "y0 y1 y10 y11 y2 y3 y4 y5 y6 y7 y8 y9", []booksTurn{hallHeap(19)}},
		{"the first books", "", deskText("new dev 1,1,0,1,,") + deskBlock("nea"), "nea new", []booksTurn{func(b *twoBooks) { *b = first }}},
		{"the first books, and no sheet", "", "", "", []booksTurn{func(b *twoBooks) { *b = first }}},
	} {
		b := hallTurned(c.with...)
		if !hallIsOk(hallHouse(), b) {
			t.Errorf("%s: the books are not ok", c.what)
		}
		for _, d := range []desk{annsDesk(c.prefix, c.text), {Who: "eve", Door: "d7", Prefix: c.prefix, Text: c.text}} {
			checkDeskNames(t, c.what, deskReadBy(hallHouse(), b, d), strings.Fields(c.want)...)
		}
	}
}

// As many names as can be: sixty of a sheet, and forty objects, a third of which it says.
func TestDeskNamesMany(t *testing.T) {
	text, want := "", texts{"api", "bin", "cron", "db", "log", "old", "web"}
	for i := range 33 {
		want = append(want, "y"+strconv.Itoa(i))
	}
	for i := range 60 {
		name := "y" + strconv.Itoa(i*3)
		text += deskBlock(name, "team "+[]string{"dev", "ghost"}[i%2])
		if i*3 >= 33 {
			want = append(want, name)
		}
	}
	slices.Sort(want)
	r := deskReadBy(hallHouse(), hallTurned(hallHeap(40)), annsDesk("", text))
	checkDeskNames(t, "many", r, want...)
	if len(want) != 40+60-11 || len(r.plan.Wants)+len(r.plan.Odds) != 60 {
		t.Errorf("%d names, %d wanted, %d odd", len(want), len(r.plan.Wants), len(r.plan.Odds))
	}
}

// Each of some names, which begin one another, is wanted or not, odd or not, there or not, in every mix.
func TestDeskNamesAllMixes(t *testing.T) {
	all := texts{"a", "a-", "ab", "b"}
	for there := range 16 {
		row := texts{"bound 1 dev copies 9"}
		for i, name := range all {
			if there>>i&1 == 1 {
				row = append(row, "draw "+strconv.Itoa(2+i)+" d9 dev copies 2", "slip 9 d9 3 "+name+":0 ann make "+name+" dev fleet 1,1,0,1,,")
			}
		}
		b := impl.HallState(hallHouse(), row)
		for mix := range 81 {
			text, isSaid := "", map[string]bool{}
			for i, rest := 0, mix; i < 4; i, rest = i+1, rest/3 {
				isSaid[all[i]] = rest%3 > 0
				switch rest % 3 {
				case 1:
					text += deskText(all[i] + " dev 1,1,0,1,,")
				case 2:
					text += deskBlock(all[i])
				}
			}
			prefix := []string{"", "a", "ab", ""}[mix%4]
			var want texts
			for i, name := range all {
				if strings.HasPrefix(name, prefix) && (isSaid[name] || there>>i&1 == 1) {
					want = append(want, name)
				}
			}
			checkDeskNames(t, "a mix", deskReadBy(hallHouse(), b, annsDesk(prefix, text)), want...)
		}
	}
}

// deskNextCase is a desk of hallBooks as turned: with the number 7 what is next has this form.
type deskNextCase struct {
	what string
	desk desk
	form string
	with []booksTurn
}

func checkDeskNexts(t *testing.T, list []deskNextCase) {
	t.Helper()
	for _, c := range list {
		b := hallTurned(c.with...)
		if !hallIsOk(hallHouse(), b) {
			t.Errorf("%s: the books are not ok: %+v", c.what, b)
		}
		checkDeskNext(t, c.what, deskReadBy(hallHouse(), b, c.desk), 7, c.form)
	}
}

// deskLabCopies bounds copies of lab, and gives d1 so many of them.
func deskLabCopies(amount int) booksTurn {
	return func(b *twoBooks) {
		b.Gate.Ledgers = slices.Insert(b.Gate.Ledgers, 1, impl.GateLedger{Team: "lab", Resource: "copies", Most: 40})
		b.Gate.Purses = slices.Insert(b.Gate.Purses, 1, impl.GatePurse{Door: "d1", Team: "lab", Resource: "copies", Amount: amount, Until: 9})
		hallAllFree(b)
	}
}

// What d1 has: 4 copies of dev, and 3 of ops. `na` needs some of dev, and `no` some of ops.
func TestDeskNextPurse(t *testing.T) {
	at := func(services ...string) desk { return annsDesk("", deskBut(services...)) }
	of := func(prefix string, services ...string) desk { return annsDesk(prefix, deskText(services...)) }
	dev, ops := "back 7 d1 dev copies", "back 7 d1 ops copies"
	nothing := ""
	checkDeskNexts(t, []deskNextCase{
		{"nothing is needed", of("x"), dev, nil},
		{"nothing is needed, all is as it is", at(), dev, nil},
		{"nothing is needed of the second", of("n", "na dev 1,3,1,1,,"), ops, nil},
		{"nothing is needed of the first", of("n", "no ops 1,2,1,1,,"), dev, nil},
		{"less is needed of the first", of("n", "na dev 1,2,1,1,,", "no ops 1,2,1,1,,"), dev, nil},
		{"less is needed of the second", of("n", "na dev 1,3,1,1,,", "no ops 1,1,0,1,,"), ops, nil},
		{"less is needed of both", of("n", "na dev 1,2,1,1,,", "no ops 1,1,0,1,,"), dev, nil},
		{"just as much is needed of both", of("n", "na dev 1,3,1,1,,", "no ops 1,2,1,1,,"), "slip 7 d1 4 na:0 ann make na dev fleet 1,3,1,1,,", nil},
		{"more is needed of the first", of("n", "na dev 1,4,1,1,,", "no ops 1,2,1,1,,"), "draw 7 d1 dev copies 1", nil},
		{"more is needed of the second", of("n", "na ops 1,3,1,1,,", "no dev 1,3,1,1,,"), "draw 7 d1 ops copies 1", nil},
		{"two names need as much together", of("n", "na dev 1,1,0,1,,", "nb dev 1,1,0,1,,", "no ops 1,2,1,1,,"), "slip 7 d1 4 na:0 ann make na dev fleet 1,1,0,1,,", nil},
		{"two names need less together", of("n", "na dev 1,1,0,1,,", "nb dev 1,0,0,1,,", "no ops 1,2,1,1,,"), dev, nil},
		{"two names need more together", of("n", "na dev 1,1,0,1,,", "nb dev 1,5,0,1,,", "no ops 1,2,1,1,,"), "slip 7 d1 4 na:0 ann make na dev fleet 1,1,0,1,,", nil},
		{"three names need as much together", of("n", "na dev 1,1,0,1,,", "nb lab 1,0,0,1,,", "nc dev 1,0,0,1,,", "no ops 1,2,1,1,,"), "slip 7 d1 4 na:0 ann make na dev fleet 1,1,0,1,,", nil},
		{"a team under it needs as much", of("n", "na lab 1,3,1,1,,", "no ops 1,2,1,1,,"), "draw 7 d1 lab service 1", nil},
		{"a team under it needs less", of("n", "na lab 1,2,1,1,,", "no ops 1,2,1,1,,"), dev, nil},
		{"a team beside it needs much", of("n", "na ops 1,9,1,1,,"), dev, nil},
		{"the team over it needs much", of("n", "na dev 1,9,1,1,,", "no ops 1,2,1,1,,"), "back 7 d1 lab copies", []booksTurn{deskLabCopies(1)}},
		{"the team itself and the one over it need as much", of("n", "na lab 1,3,1,1,,", "no ops 1,2,1,1,,"), "draw 7 d1 lab service 1", []booksTurn{deskLabCopies(4)}},
		{"the team itself needs less than the one over it", of("n", "na lab 1,2,1,1,,", "nb dev 1,0,0,1,,", "no ops 1,2,1,1,,"), "back 7 d1 lab copies", []booksTurn{deskLabCopies(4)}},
		{"as much of another resource is needed", of("n", "na lab 1,3,1,1,,", "no ops 1,2,1,1,,"), "slip 7 d1 4 na:0 ann make na lab fleet 1,3,1,1,,", []booksTurn{deskLabPurse}},
		{"less of another resource is needed", of("n", "na dev 1,3,1,1,,", "no ops 1,2,1,1,,"), "back 7 d1 lab service", []booksTurn{deskLabPurse}},
		{"names that are to end need nothing", at("api no", "web no"), dev, nil},
		{"one that is to go to another team needs nothing", at("api ops 5,3,1,2,,"), dev, nil},
		{"Ending ones need nothing", at("old dev 1,10,1,2,,", "cron ops 1,10,1,2,,", "bin dev 1,10,1,2,,"), dev, nil},
		{"odd ones need nothing", at("api odd", "na odd"), dev, nil},
		{"what is as it is needs nothing", of("w", "web lab 4,2,0,1,,"), dev, nil},
		{"another image needs nothing", at("api dev 6,3,1,2,,", "log ops 4,2,0,1,,"), dev, nil},
		{"what weighs less needs nothing", at("api dev 5,0,1,1,,", "log ops 3,1,0,1,,"), dev, nil},
		{"what weighs less is taken from no other's needs", at("api dev 5,0,1,1,,", "na dev 1,3,1,1,,", "no ops 1,2,1,1,,"), "slip 7 d1 4 api:7 ann change api 7 5,0,1,1,,", nil},
		{"what goes is taken from no other's needs", at("api no", "na dev 1,3,1,1,,", "no ops 1,2,1,1,,"), "slip 7 d1 4 api:7 ann end api 7", nil},
		{"a change that needs as much", at("api dev 5,7,1,2,,", "log ops 3,5,0,1,,"), "slip 7 d1 4 api:7 ann change api 7 5,7,1,2,,", nil},
		{"a change that needs less", at("api dev 5,6,1,2,,", "log ops 3,5,0,1,,"), dev, nil},
		{"a change that needs less of the second", at("api dev 5,7,1,2,,", "log ops 3,4,0,1,,"), ops, nil},
		{"a change that needs more", at("api dev 5,8,1,2,,", "log ops 3,5,0,1,,"), "draw 7 d1 dev copies 1", nil},
		{"changes of two teams need as much together", at("api dev 5,5,1,2,,", "db lab 2,6,0,1,10,", "log ops 3,5,0,1,,"), "slip 7 d1 4 api:7 ann change api 7 5,5,1,2,,", nil},
		{"a change and one that is new need as much", at("api dev 5,4,1,2,,", "na dev 1,2,0,1,,", "log ops 3,5,0,1,,"), "slip 7 d1 4 api:7 ann change api 7 5,4,1,2,,", nil},
		{"what is poor needs it all the same", of("n", "na dev 1,10,1,10,,", "no ops 1,2,1,1,,"), "slip 7 d1 4 no:0 ann make no ops fleet 1,2,1,1,,", nil},
		{"what would be refused needs it all the same", asBob(of("n", "na dev 1,3,1,1,,", "no ops 1,2,1,1,,")), nothing, nil},
		{"another door's purses", atDoor("d2", of("n", "na dev 1,1,0,1,,")), "slip 7 d2 4 na:0 ann make na dev fleet 1,1,0,1,,", nil},
		{"another door's purses, and less is needed", atDoor("d2", of("n", "na dev 1,0,0,1,,")), "back 7 d2 dev copies", nil},
		{"other doors' purses alone", atDoor("d3", of("x")), nothing, nil},
		{"doors that begin so have others", atDoor("d", of("x")), nothing, nil},
		{"doors that go on from it have others", atDoor("d11", of("x")), nothing, nil},
		{"they may do nothing there", desk{Who: "eve", Door: "d1", Prefix: "x"}, dev, nil},
		{"no versions left", of("x"), dev, []booksTurn{gateAt(1000000), stewAt(1000000)}},
		{"a purse comes ahead of what could be done", of("web", "web lab 5,2,0,1,,"), dev, nil},
	})
}

// With no purse that has too much, the names have their turns.
func TestDeskNextName(t *testing.T) {
	at := func(door string, services ...string) desk { return atDoor(door, annsDesk("", deskBut(services...))) }
	of := func(prefix string, services ...string) desk {
		return atDoor("d3", annsDesk(prefix, deskText(services...)))
	}
	checkDeskNexts(t, []deskNextCase{
		{"all is as it is", at("d3"), "", nil},
		{"no names", of("x"), "", nil},
		{"one to make", of("n", "new dev 1,2,1,1,,"), "draw 7 d3 dev copies 3", nil},
		{"one to change", at("d3", "log ops 4,2,0,1,,"), "slip 7 d3 4 log:10 ann change log 10 4,2,0,1,,cron", nil},
		{"one to end", of("w"), "slip 7 d3 4 web:13 ann end web 13", nil},
		{"the first of several", of("", "new dev 1,2,1,1,,", "zed dev 1,2,1,1,,"), "slip 7 d3 4 api:7 ann end api 7", nil},
		{"one that is new comes first", at("d3", "aaa dev 1,2,1,1,,", "web no"), "draw 7 d3 dev copies 3", nil},
		{"one that is new comes last", at("d3", "zed dev 1,2,1,1,,", "web no"), "slip 7 d3 4 web:13 ann end web 13", nil},
		{"one that begins another", of("ap", "ap ops 1,0,0,1,,", "apis dev 1,0,0,1,,"), "draw 7 d3 ops copies 1", nil},
		{"one that another begins", of("ap", "api dev 5,3,1,2,,", "apis dev 1,0,0,1,,"), "draw 7 d3 dev copies 1", nil},
		{"behind one that is as it is", at("d3", "db no"), "slip 7 d3 4 db:8 ann end db 8", nil},
		{"behind one of a strange team", at("d3", "aaa ghost 1,2,1,1,,", "db no"), "slip 7 d3 4 db:8 ann end db 8", nil},
		{"behind one that is unfit", at("d3", "aaa dev 0,2,1,1,,", "db no"), "slip 7 d3 4 db:8 ann end db 8", nil},
		{"behind one that is unfit, and there", at("d3", "api dev 5,11,1,1,,", "db no"), "slip 7 d3 4 db:8 ann end db 8", nil},
		{"behind Ending ones", at("d3", "log no"), "slip 7 d3 4 log:10 ann end log 10", nil},
		{"behind a poor one", at("d3", "aaa dev 1,10,1,1,,", "api ops 5,3,1,2,,"), "slip 7 d3 4 api:7 ann end api 7", nil},
		{"behind one that is poor to change", at("d3", "api dev 5,10,1,2,,", "db lab 2,9,0,1,10,"), "draw 7 d3 dev copies 5", nil},
		{"behind one that is refused", asBob(of("w", "w-1 lab 1,1,0,1,,", "w dev 1,1,0,1,,")), "draw 7 d3 dev copies 2", nil},
		{"behind one that may not be ended", desk{Who: "cy", Door: "d3"}, "slip 7 d3 4 api:7 cy end api 7", nil},
		{"behind those that may not be changed", desk{Who: "cy", Door: "d3", Text: deskBut("api dev 5,2,1,2,,", "db no")}, "slip 7 d3 4 db:8 cy end db 8", nil},
		{"behind each of them", at("d3", "aaa ghost 1,2,1,1,,", "aab dev 1,2,11,1,,", "aac dev 1,10,1,1,,", "log no", "new dev 1,1,0,1,,"), "slip 7 d3 4 log:10 ann end log 10", nil},
		{"a name that is too long alone", at("d3", letters(17)+" dev 1,1,0,1,,"), "", nil},
		{"nothing but what waits", at("d3", "aaa ghost 1,2,1,1,,", "aab dev 1,2,11,1,,", "aac dev 1,10,1,1,,"), "", nil},
		{"somebody who may do nothing", desk{Who: "eve", Door: "d3", Text: deskText("new dev 1,2,1,1,,")}, "", nil},
		{"no room for another object", at("d3", "aaa ops 1,0,0,1,,", "web no"), "slip 7 d3 4 web:13 ann end web 13", []booksTurn{hallHeap(40)}},
		{"no versions left", of(""), "", []booksTurn{gateAt(1000000)}},
		{"no changes of Stew left", of(""), "", []booksTurn{stewAt(1000000)}},
		{"no changes of Stew left, and a draw", of("n", "new dev 1,2,1,1,,"), "draw 7 d3 dev copies 3", []booksTurn{stewAt(1000000)}},
		{"a purse too many", of("w", "w-1 lab 1,1,0,1,,"), "slip 7 d3 4 web:13 ann end web 13", []booksTurn{deskPurses(24)}},
	})
}

// What is next has any number in its bounds, and there is nothing with another one.
func TestDeskNextNumbers(t *testing.T) {
	for form, d := range map[string]desk{
		"back N d1 dev copies":              annsDesk("", deskBut("web no")),
		"draw N d3 dev copies 3":            atDoor("d3", annsDesk("n", deskText("new dev 1,2,1,1,,"))),
		"slip N d3 4 web:13 ann end web 13": atDoor("d3", annsDesk("w", "")),
	} {
		r := deskReadBy(hallHouse(), hallBooks(), d)
		for _, number := range []int{1, 2, 9, 10, 500000, 500001, 999999, 1000000} {
			checkDeskNext(t, "a number", r, number, strings.ReplaceAll(form, "N", strconv.Itoa(number)))
		}
		for _, number := range []int{0, -1, 1000001, 9999999, 10000000, math.MinInt, math.MaxInt} {
			checkDeskNext(t, "a number that is none", r, number, "")
		}
	}
}

// One thing after the other, from nothing to what a sheet says, to what another one says, and to nothing again; the hall's own doing is between.
func TestDeskNextRow(t *testing.T) {
	h := hallHouse()
	b := impl.HallState(h, []string{"sea 1 raise b1", "bound 1 dev copies 12", "bound 1 lab copies 5", "bound 1 lab service 1"})
	d := annsDesk("s-", deskText("s-a dev 1,2,1,1,,", "s-b lab 1,3,1,1,,", "s-c lab 1,1,0,1,,"))
	for i, step := range []struct {
		text  string
		forms texts
		waits string
	}{
		{d.Text, texts{
			"draw N d1 dev copies 3", "slip N d1 3 s-a:0 ann make s-a dev fleet 1,2,1,1,,",
			"draw N d1 dev copies 4", "draw N d1 lab copies 4", "draw N d1 lab service 1", "slip N d1 3 s-b:0 ann make s-b lab fleet 1,3,1,1,,",
		}, "s-c 7"},
		{deskText("s-a dev 1,1,0,1,,", "s-b lab 2,2,1,1,,"), texts{"slip N d1 3 s-a:4 ann change s-a 4 1,1,0,1,,", "slip N d1 3 s-b:5 ann change s-b 5 2,2,1,1,,"}, ""},
		{deskText("s-a dev 2,4,0,1,,", "s-b lab 2,2,1,1,,", "s-c ghost 1,1,0,1,,"), texts{"draw N d1 dev copies 3", "slip N d1 3 s-a:6 ann change s-a 6 2,4,0,1,,"}, "s-c 2"},
		{deskText("s-a dev 2,6,0,1,,", "s-b ops 2,2,1,1,,"), texts{"draw N d1 dev copies 2", "slip N d1 3 s-a:8 ann change s-a 8 2,6,0,1,,", "slip N d1 3 s-b:7 ann end s-b 7"}, "s-b 6"},
		{"", texts{"slip N d1 3 s-a:9 ann end s-a 9"}, "s-a 6 s-b 6"},
	} {
		d.Text = step.text
		for k, form := range append(step.forms, "") {
			number := 1 + 10*i + k
			checkDeskNext(t, "a row", deskReadBy(h, b, d), number, strings.Replace(form, "N", strconv.Itoa(number), 1))
			if e, is := impl.DeskNext(h, b, d, number); is {
				b, _ = impl.HallDo(h, b, e)
			}
		}
		checkDeskWaits(t, "a row", deskReadBy(h, b, d), step.waits)
		checkDeskHas(t, "a row", deskReadBy(h, b, d), step.waits == "" || step.waits == "s-c 2")
	}
}

// What was drawn for a sheet that is turned goes back, whatever is left of it.
func TestDeskNextTurned(t *testing.T) {
	h := hallHouse()
	b := impl.HallState(h, []string{"bound 1 dev copies 12", "bound 1 ops copies 9", "draw 1 d1 dev copies 5", "draw 1 d1 ops copies 5", "draw 1 d2 dev copies 2"})
	for text, forms := range map[string]texts{
		deskText("n dev 1,4,0,1,,", "o ops 1,4,0,1,,"): {"slip N d1 3 n:0 ann make n dev fleet 1,4,0,1,,", "slip N d1 3 o:0 ann make o ops fleet 1,4,0,1,,"},
		deskText("n dev 1,3,0,1,,", "o ops 1,5,0,1,,"): {"back N d1 dev copies", "draw N d1 dev copies 4", "slip N d1 3 n:0 ann make n dev fleet 1,3,0,1,,", "draw N d1 ops copies 1", "slip N d1 3 o:0 ann make o ops fleet 1,5,0,1,,"},
		deskText("o ops 1,3,0,1,,"):                    {"back N d1 dev copies", "back N d1 ops copies", "draw N d1 ops copies 4", "slip N d1 3 o:0 ann make o ops fleet 1,3,0,1,,"},
		"":                                             {"back N d1 dev copies", "back N d1 ops copies"},
	} {
		books := b
		for k, form := range append(forms, "") {
			r := deskReadBy(h, books, annsDesk("", text))
			checkDeskNext(t, "turned", r, 1+k, strings.Replace(form, "N", strconv.Itoa(1+k), 1))
			if e, is := impl.DeskNext(h, books, r.d, 1+k); is {
				books, _ = impl.HallDo(h, books, e)
			}
		}
		if r := deskReadBy(h, books, annsDesk("", text)); !impl.DeskHas(h, books, r.d) || len(books.Gate.Purses) != 1 {
			t.Errorf("%q came to %+v", text, books.Gate)
		}
	}
}
