package tests

import (
	"regexp"
	"slices"
	"strconv"
	"strings"
	"testing"

	"loop.example/wharfdesk/impl"
)

var (
	decimals = regexp.MustCompile(`^(0|[1-9][0-9]{0,6})$`)
	names    = regexp.MustCompile(`^[a-z0-9-]{1,16}$`)
)

// weightOf is the document's sentence on what an object weighs.
func weightOf(l impl.GateLaw, o impl.GateObject, resource string) int {
	at := slices.IndexFunc(l.Shapes, func(s impl.GateShape) bool { return s.Kind == o.Kind })
	if resource == "" || at < 0 || len(o.Values) != len(l.Shapes[at].Fields) {
		return 0
	}
	sum := 0
	for i, f := range l.Shapes[at].Fields {
		if f.Kind == impl.GateNumber && f.Weighs == resource && decimals.MatchString(o.Values[i]) {
			number, _ := strconv.Atoi(o.Values[i])
			sum += number
		}
	}
	if o.Kind == resource {
		return sum + 1
	}
	return sum
}

func usedBy(l impl.GateLaw, b impl.GateBook, team, resource string) int {
	sum := 0
	for _, o := range b.Objects {
		if standsUnder(l.Teams, o.Team, team) {
			sum += weightOf(l, o, resource)
		}
	}
	return sum
}

func drawnFrom(b impl.GateBook, team, resource string) int {
	sum := 0
	for _, p := range b.Purses {
		if p.Team == team && p.Resource == resource {
			sum += p.Amount
		}
	}
	return sum
}

// ascendingKeys are such that the order of texts is that of their parts: no name has a byte of 0.
func ascendingKeys[T any](list []T, parts func(T) []string) bool {
	var keys []string
	for _, thing := range list {
		keys = append(keys, strings.Join(parts(thing), "\x00"))
	}
	return slices.Equal(keys, slices.Compact(slices.Sorted(slices.Values(keys))))
}

func all[T any](list []T, holds func(T) bool) bool {
	return !slices.ContainsFunc(list, func(thing T) bool { return !holds(thing) })
}

func linksAreThere(l impl.GateLaw, b impl.GateBook, o impl.GateObject) bool {
	for i, f := range shapeOf(l.Shapes, o.Kind).Fields {
		there := func(other impl.GateObject) bool { return other.Kind == f.To && other.Name == o.Values[i] }
		if f.Kind == impl.GateLink && o.Values[i] != "" && !slices.ContainsFunc(b.Objects, there) {
			return false
		}
	}
	return true
}

func isTeam(l impl.GateLaw, name string) bool {
	return slices.ContainsFunc(l.Teams, func(team impl.GateTeam) bool { return team.Name == name })
}

func objectsAreOk(l impl.GateLaw, b impl.GateBook) bool {
	order := func(o impl.GateObject) []string { return []string{o.Kind, o.Name} }
	return len(b.Objects) <= 40 && ascendingKeys(b.Objects, order) && all(b.Objects, func(o impl.GateObject) bool {
		code, _ := impl.GateCheck(l.Shapes, o)
		if code != 0 || !isTeam(l, o.Team) || o.Version <= 0 || o.Version > b.Now {
			return false
		}
		return sameTexts(impl.GateShaped(l.Shapes, l.Mends, o).Values, o.Values) && linksAreThere(l, b, o)
	})
}

func grantsAreOk(b impl.GateBook) bool {
	last := 0
	return len(b.Grants) <= 24 && all(b.Grants, func(g impl.GateGrant) bool {
		ascends := last < g.Number && g.Number <= b.Given
		last = g.Number
		// A rule that is ok is covered by itself.
		return ascends && names.MatchString(g.To) && (g.By == "" || names.MatchString(g.By)) && impl.GateCovers(nil, ruleList{g.Rule}, g.Rule)
	})
}

func ledgersAreOk(l impl.GateLaw, b impl.GateBook) bool {
	order := func(ledger impl.GateLedger) []string { return []string{ledger.Team, ledger.Resource} }
	return len(b.Ledgers) <= 10 && ascendingKeys(b.Ledgers, order) && all(b.Ledgers, func(ledger impl.GateLedger) bool {
		sum := usedBy(l, b, ledger.Team, ledger.Resource) + drawnFrom(b, ledger.Team, ledger.Resource) + ledger.Free
		return isTeam(l, ledger.Team) && names.MatchString(ledger.Resource) && ledger.Free >= 0 && ledger.Free <= ledger.Most && ledger.Most <= 1000000 && sum == ledger.Most
	})
}

func pursesAreOk(b impl.GateBook) bool {
	order := func(p impl.GatePurse) []string { return []string{p.Door, p.Team, p.Resource} }
	return len(b.Purses) <= 24 && ascendingKeys(b.Purses, order) && all(b.Purses, func(p impl.GatePurse) bool {
		of := func(ledger impl.GateLedger) bool { return ledger.Team == p.Team && ledger.Resource == p.Resource }
		left := p.Until - b.Tick
		return names.MatchString(p.Door) && slices.ContainsFunc(b.Ledgers, of) && p.Amount > 0 && p.Amount <= 1000000 && left >= 0 && left <= 10
	})
}

// bookIsOk is the document's list of when a book is ok.
func bookIsOk(l impl.GateLaw, b impl.GateBook) bool {
	times := b.Now >= 0 && b.Now <= 1000000 && b.Tick >= 0 && b.Tick <= 1000000 && b.Given >= 0 && b.Given <= b.Now
	return impl.GateLawOk(l) && times && objectsAreOk(l, b) && grantsAreOk(b) && ledgersAreOk(l, b) && pursesAreOk(b)
}

func (d *dice) resource() string {
	return pick(d, "r0", "r1", "k0", "k1", "k2")
}

// law is ok.
func (d *dice) law() impl.GateLaw {
	for {
		l := impl.GateLaw{Shapes: d.shapes(), Teams: d.teams()}
		for _, shape := range l.Shapes {
			for i := range shape.Fields {
				if shape.Fields[i].Kind == impl.GateNumber && d.roll(4) > 0 {
					shape.Fields[i].Weighs = d.resource()
				}
			}
		}
		l.Mends = d.mends(l.Shapes)
		if impl.GateLawOk(l) && len(l.Teams) > 0 {
			return l
		}
	}
}

// objects are up to a number of ones that are ok but for what links name.
func (d *dice) objects(l impl.GateLaw, now, most int) []impl.GateObject {
	var list []impl.GateObject
	for i := range most {
		o := d.object(l.Shapes)
		o.Name, o.Team, o.Version = "o"+strconv.Itoa(100+i), pick(d, l.Teams...).Name, 1+d.roll(now)
		for place, f := range shapeOf(l.Shapes, o.Kind).Fields {
			if f.Kind == impl.GateLink {
				o.Values[place] = pick(d, "", "o"+strconv.Itoa(100+d.roll(most)))
			}
		}
		o.Ending = d.roll(4) == 0
		o.Holds = pick(d, nil, nil, []string{"h"}, []string{"g", "h"})
		o = impl.GateShaped(l.Shapes, l.Mends, o)
		if code, _ := impl.GateCheck(l.Shapes, o); code == 0 && same(o, impl.GateShaped(l.Shapes, l.Mends, o)) {
			list = append(list, o)
		}
	}
	return list
}

// book is ok: what would name nothing is left out until nothing does, and the ledgers' Mosts are what their sums are.
func (d *dice) book(l impl.GateLaw) impl.GateBook {
	b := impl.GateBook{Now: 1 + d.roll(30), Tick: d.roll(20)}
	b.Given = d.roll(b.Now + 1)
	b.Objects = d.objects(l, b.Now, pick(d, 4, 10, impl.GateMaxObjects))
	for {
		there := len(b.Objects)
		all := slices.Clone(b.Objects)
		b.Objects = slices.DeleteFunc(b.Objects, func(o impl.GateObject) bool {
			return !linksAreThere(l, impl.GateBook{Objects: all}, o)
		})
		if len(b.Objects) == there {
			break
		}
	}
	for number := range b.Given {
		if d.roll(2) == 0 && len(b.Grants) < impl.GateMaxGrants {
			b.Grants = append(b.Grants, impl.GateGrant{Number: number + 1, To: pick(d, "ann", "bob"), By: pick(d, "", "ann"), Rule: d.rule()})
		}
	}
	d.ledgers(l, &b)
	return b
}

func (d *dice) ledgers(l impl.GateLaw, b book) {
	for range d.roll(impl.GateMaxLedgers + 1) {
		ledger := impl.GateLedger{Team: pick(d, l.Teams...).Name, Resource: d.resource(), Free: d.roll(20)}
		taken := func(other impl.GateLedger) bool {
			return other.Team == ledger.Team && other.Resource == ledger.Resource
		}
		if slices.ContainsFunc(b.Ledgers, taken) {
			continue
		}
		for _, door := range []string{"d0", "d1", "d2"} {
			if d.roll(3) == 0 && len(b.Purses) < impl.GateMaxPurses {
				b.Purses = append(b.Purses, impl.GatePurse{Door: door, Team: ledger.Team, Resource: ledger.Resource, Amount: 1 + d.roll(9), Until: b.Tick + d.roll(11)})
			}
		}
		ledger.Most = ledger.Free + usedBy(l, *b, ledger.Team, ledger.Resource) + drawnFrom(*b, ledger.Team, ledger.Resource)
		b.Ledgers = append(b.Ledgers, ledger)
	}
	inOrder(b)
}

// spoil turns one thing of a law or a book, mostly so that it is not ok any more.
func (d *dice) spoil(l law, b book) {
	step := pick(d, -1, 1)
	switch d.roll(14) {
	case 0:
		b.Now += pick(d, -30, -1, 1, 30)
	case 1:
		b.Tick += pick(d, -10, -1, 1, 10)
	case 2:
		b.Given += pick(d, -5, -1, 1, 5)
	case 3:
		l.Teams[d.roll(len(l.Teams))].Over = pick(d, l.Teams...).Name
	case 4:
		l.Mends = d.mends(l.Shapes)
	case 5, 6, 7:
		if len(b.Objects) > 0 {
			d.spoilObject(l, b)
		}
	case 8:
		if len(b.Grants) > 0 {
			g := &b.Grants[d.roll(len(b.Grants))]
			*pick(d, &g.Number, &b.Given) += step
		}
	case 9, 10:
		if len(b.Ledgers) > 0 {
			ledger := &b.Ledgers[d.roll(len(b.Ledgers))]
			*pick(d, &ledger.Most, &ledger.Free) += step
			if d.roll(2) == 0 {
				ledger.Most += step
			}
		}
	case 11, 12:
		if len(b.Purses) > 0 {
			p := &b.Purses[d.roll(len(b.Purses))]
			*pick(d, &p.Amount, &p.Until, &p.Until) += step * pick(d, 1, 1, 4)
		}
	default:
		d.spoilOrder(b)
	}
}

func (d *dice) spoilObject(l law, b book) {
	at := d.roll(len(b.Objects))
	o := &b.Objects[at]
	switch d.roll(5) {
	case 0:
		o.Team = pick(d, append(l.Teams, impl.GateTeam{Name: "ghost"})...).Name
	case 1:
		o.Version = d.roll(max(b.Now, 0) + 2)
	case 2:
		b.Objects = slices.Delete(b.Objects, at, at+1)
	default:
		if len(o.Values) > 0 {
			o.Values[d.roll(len(o.Values))] = pick(d, "", "1", "2", "a", "o100", "o101", "o102")
		}
	}
}

func (d *dice) spoilOrder(b book) {
	switch d.roll(4) {
	case 0:
		swapTwo(d, b.Objects)
	case 1:
		swapTwo(d, b.Grants)
	case 2:
		swapTwo(d, b.Ledgers)
	case 3:
		swapTwo(d, b.Purses)
	}
}

func swapTwo[T any](d *dice, list []T) {
	if len(list) > 1 {
		at := 1 + d.roll(len(list)-1)
		list[at-1], list[at] = list[at], list[at-1]
	}
}

func TestGateBookOkMadeUp(t *testing.T) {
	t.Parallel()
	d := dice(21)
	counts := map[bool]int{}
	for range 4000 {
		l := d.law()
		b := d.book(l)
		if !impl.GateBookOk(l, b) || !bookIsOk(l, b) {
			t.Fatalf("not ok: %+v, %+v", l, b)
		}
		for range 1 + d.roll(2) {
			d.spoil(&l, &b)
			want := bookIsOk(l, b)
			counts[want]++
			if got := impl.GateBookOk(l, b); got != want {
				t.Fatalf("ok is %v: %+v, %+v", got, l, b)
			}
		}
	}
	if counts[true] < 1000 || counts[false] < 1000 {
		t.Errorf("too few made-up cases: %v", counts)
	}
}

func TestGateUsedMadeUp(t *testing.T) {
	d := dice(22)
	used := 0
	for range 3000 {
		l := d.law()
		b := d.book(l)
		for range d.roll(4) {
			d.spoil(&l, &b)
		}
		team, resource := pick(&d, d.act().Team, pick(&d, l.Teams...).Name), d.resource()
		want := usedBy(l, b, team, resource)
		if got := impl.GateUsed(l, b, team, resource); got != want {
			t.Fatalf("%s uses %d of %s, not %d: %+v, %+v", team, got, resource, want, l, b)
		}
		if want > 0 {
			used++
		}
		for _, o := range b.Objects {
			if got, want := impl.GateWeighs(l, o, resource), weightOf(l, o, resource); got != want {
				t.Fatalf("%+v weighs %d of %s, not %d: %+v", o, got, resource, want, l)
			}
		}
	}
	if used < 400 {
		t.Errorf("too few made-up cases: %d", used)
	}
}
