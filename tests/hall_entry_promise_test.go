package tests

import (
	"math"
	"reflect"
	"regexp"
	"slices"
	"strconv"
	"strings"
	"testing"

	"loop.example/wharfdesk/impl"
)

// hallPen writes an entry as the document tells it, taking each part out of the entry as it is written.
type hallPen struct {
	words []string
	fits  bool
}

func hallTakeOut[T any](part *T) T {
	var nothing T
	value := *part
	*part = nothing
	return value
}

func (p *hallPen) put(word string, fits bool) {
	p.words = append(p.words, word)
	p.fits = p.fits && fits
}

func (p *hallPen) names(parts ...*string) {
	for _, part := range parts {
		name := hallTakeOut(part)
		p.put(name, names.MatchString(name))
	}
}

func (p *hallPen) numbers(parts ...*int) {
	for _, part := range parts {
		n := hallTakeOut(part)
		p.put(strconv.Itoa(n), n >= 0 && n <= 9999999)
	}
}

func (p *hallPen) service(kind *string) {
	p.fits = p.fits && hallTakeOut(kind) == "service"
}

// hallPenList puts a list, each part written by a pen of its own, with a colon between its words.
func hallPenList[T any](p *hallPen, list *[]T, write func(p *hallPen, part *T)) {
	var parts []string
	for _, part := range hallTakeOut(list) {
		pen := &hallPen{fits: true}
		write(pen, &part)
		parts = append(parts, strings.Join(pen.words, ":"))
		p.fits = p.fits && pen.fits
	}
	if len(parts) == 0 {
		parts = []string{"*"}
	}
	p.put(strings.Join(parts, ","), true)
}

func (p *hallPen) values(list *[]string) {
	values := hallTakeOut(list)
	p.put(strings.Join(values, ","), len(values) == 6 && all(values, func(v string) bool { return v == "" || names.MatchString(v) || decimals.MatchString(v) }))
}

func (p *hallPen) ask(a *ask) {
	verb := hallTakeOut(&a.Verb)
	words := []string{"", "make", "change", "end", "letgo", "give", "take"}
	if verb < 1 || verb > 6 {
		p.fits = false
		return
	}
	p.put(words[verb], true)
	if verb <= 4 {
		p.service(&a.Kind)
		p.names(&a.Name)
	}
	switch verb {
	case impl.GateMake:
		p.names(&a.Team)
		hallPenList(p, &a.Holds, func(p *hallPen, hold *string) { p.names(hold) })
		p.values(&a.Values)
	case impl.GateChange:
		p.numbers(&a.Seen)
		p.values(&a.Values)
	case impl.GateEnd:
		p.numbers(&a.Seen)
	case impl.GateLetGo:
		p.names(&a.Hold)
	case impl.GateGive:
		p.names(&a.To)
		p.rule(&a.Rule)
	case impl.GateTake:
		p.numbers(&a.Number)
	}
}

func (p *hallPen) rule(r *gateRule) {
	verbs := hallTakeOut(&r.Verbs)
	word := ""
	for _, verb := range verbs {
		word += strconv.Itoa(verb)
	}
	p.put(word, len(verbs) > 0 && recIn(0, 9, verbs...))
	for _, part := range []*string{&r.Kind, &r.Team, &r.Prefix} {
		if *part == "" {
			p.put("*", true)
		} else {
			p.names(part)
		}
	}
}

func (p *hallPen) act(a *stewardAct) {
	p.names(&a.Service)
	p.numbers(&a.Seen, &a.Create)
	scale := []hallScale{}
	if hallTakeOut(&a.Scale) {
		scale = []hallScale{{hallTakeOut(&a.Want), hallTakeOut(&a.Cool)}}
	}
	hallPenList(p, &scale, func(p *hallPen, s *hallScale) { p.numbers(&s.want, &s.cool) })
	hallPenList(p, &a.Ends, func(p *hallPen, end *impl.StewEnd) { p.numbers(&end.Number, &end.Seen) })
	if hallTakeOut(&a.Drop) {
		p.put("drop", true)
	} else {
		p.put("*", true)
	}
}

type hallScale struct{ want, cool int }

func (p *hallPen) sea(e *seaEvent) {
	kind := hallTakeOut(&e.Kind)
	words := map[int]string{1: "tick", 3: "fails", 4: "sink", 5: "raise", 6: "load"}
	word, known := words[kind]
	if kind == 5 && hallTakeOut(&e.Flag) {
		word = "drain"
	}
	p.put(word, known)
	if kind > 1 {
		p.names(&e.Name)
	}
	if kind == 3 || kind == 6 {
		p.numbers(&e.Number)
	}
}

// hallPenned is what an entry is written as, and whether its parts can be written so, and nothing is left.
func hallPenned(e entry) (string, bool) {
	p := &hallPen{fits: true}
	kind, number := hallTakeOut(&e.Kind), e.Number
	if kind < 1 || kind > 8 {
		return "", false
	}
	p.put(strings.Fields("slip draw back bound time sweep act sea")[kind-1], recIn(1, 1000000, number))
	p.numbers(&e.Number)
	switch kind {
	case impl.HallSlip:
		p.names(&e.Slip.Door)
		p.numbers(&e.Slip.Given)
		hallPenList(p, &e.Slip.Wants, func(p *hallPen, w *want) {
			p.service(&w.Kind)
			p.names(&w.Name)
			p.numbers(&w.Version)
		})
		p.names(&e.Slip.Ask.Who)
		p.ask(&e.Slip.Ask)
	case impl.HallDraw:
		p.names(&e.Door, &e.Team, &e.Resource)
		p.numbers(&e.Amount)
	case impl.HallBack:
		p.names(&e.Door, &e.Team, &e.Resource)
	case impl.HallBound:
		p.names(&e.Team, &e.Resource)
		p.numbers(&e.Amount)
	case impl.HallAct:
		p.act(&e.Act)
	case impl.HallSea:
		p.sea(&e.Sea)
	}
	return strings.Join(p.words, " "), p.fits && same(e, entry{})
}

// hallTextOf is what an entry is written as, whatever its size.
func hallTextOf(e entry) string {
	text, _ := hallPenned(e)
	return text
}

// hallFormAsRead is the form by the document's words.
func hallFormAsRead(e entry) string {
	text, fits := hallPenned(e)
	if !fits || len(text) > 160 {
		return ""
	}
	return text
}

// hallForms is the document's table of forms, but for their size.
var hallForms = func() *regexp.Regexp {
	list := func(part string) string { return `(\*|` + part + `(,` + part + `)*)` }
	form := `^(slip ENTRY NAME NUM WANTS NAME (make NAME NAME HOLDS VALUES|change NAME NUM VALUES|end NAME NUM|letgo NAME NAME|give NAME [0-9]+ ANY ANY ANY|take NUM)` +
		`|draw ENTRY NAME NAME NAME NUM|back ENTRY NAME NAME NAME|bound ENTRY NAME NAME NUM|time ENTRY|sweep ENTRY` +
		`|act ENTRY NAME NUM NUM (\*|NUM:NUM) ENDS (\*|drop)` +
		`|sea ENTRY (tick|fails NAME NUM|sink NAME|raise NAME|drain NAME|load NAME NUM))$`
	form = strings.NewReplacer("WANTS", list("NAME:NUM"), "HOLDS", list("NAME"), "ENDS", list("NUM:NUM"), "VALUES", `NAME?(,NAME?){5}`, "ANY", `(\*|NAME)`).Replace(form)
	return regexp.MustCompile(strings.NewReplacer("ENTRY", `([1-9][0-9]{0,5}|1000000)`, "NAME", `([a-z0-9-]{1,16})`, "NUM", `(0|[1-9][0-9]{0,6})`).Replace(form))
}()

func hallIsForm(text string) bool {
	return len(text) <= 160 && hallForms.MatchString(text)
}

// checkText says of any text whether it is read, and that it is the form of what it is read as.
func checkText(t *testing.T, text string) bool {
	t.Helper()
	if !hallIsForm(text) {
		checkUnread(t, "a text", text)
		return false
	}
	e, ok := impl.HallRead(text)
	if !ok || impl.HallForm(e) != text || hallFormAsRead(e) != text {
		t.Errorf("%q is read as %+v, %v, with the form %q", text, e, ok, impl.HallForm(e))
	}
	newMemory(t, text, e)
	return true
}

func (d *dice) hallName() string {
	return pick(d, "web", "db", "d1", "ann", "a", "0", "12", "-", "drop", "tick", "service", letters(16))
}

func (d *dice) hallNumber() int {
	return pick(d, 0, 1, 2, 10, 100, 9999999, 1000000, d.roll(10000000))
}

func (d *dice) hallAsk() ask {
	verb := 1 + d.roll(6)
	a := ask{Verb: verb, Who: d.hallName()}
	if verb <= 4 {
		a.Kind, a.Name = "service", d.hallName()
	}
	if verb <= 2 {
		for range 6 {
			a.Values = append(a.Values, pick(d, "", "", "1", "0", "9999999", "web", "01"))
		}
	}
	switch verb {
	case impl.GateMake:
		a.Team = d.hallName()
		for range d.roll(4) {
			a.Holds = append(a.Holds, d.hallName())
		}
	case impl.GateChange, impl.GateEnd:
		a.Seen = d.hallNumber()
	case impl.GateLetGo:
		a.Hold = d.hallName()
	case impl.GateGive:
		a.To, a.Rule = d.hallName(), gateRule{Kind: pick(d, "", d.hallName()), Team: pick(d, "", d.hallName()), Prefix: pick(d, "", d.hallName())}
		for range 1 + d.roll(8) {
			a.Rule.Verbs = append(a.Rule.Verbs, d.roll(10))
		}
	case impl.GateTake:
		a.Number = d.hallNumber()
	}
	return a
}

func (d *dice) hallSea() seaEvent {
	kind := pick(d, 1, 3, 4, 5, 6)
	e := seaEvent{Kind: kind, Flag: kind == 5 && d.roll(2) == 0}
	if kind > 1 {
		e.Name = d.hallName()
	}
	if kind == 3 || kind == 6 {
		e.Number = d.hallNumber()
	}
	return e
}

func (d *dice) hallAct() stewardAct {
	a := stewardAct{Service: d.hallName(), Seen: d.hallNumber(), Create: d.hallNumber(), Scale: d.roll(2) == 0, Drop: d.roll(2) == 0}
	if a.Scale {
		a.Want, a.Cool = d.hallNumber(), d.hallNumber()
	}
	for range d.roll(5) {
		a.Ends = append(a.Ends, impl.StewEnd{Number: d.hallNumber(), Seen: d.hallNumber()})
	}
	return a
}

// hallEntry has a form, unless that is too long.
func (d *dice) hallEntry() entry {
	e := entry{Kind: pick(d, 1, 1, 1, 1, 2, 3, 4, 5, 6, 7, 7, 8, 8), Number: pick(d, 1, 1000000, 1+d.roll(1000000))}
	switch e.Kind {
	case impl.HallSlip:
		e.Slip = slip{Door: d.hallName(), Given: d.hallNumber(), Ask: d.hallAsk()}
		for range d.roll(4) {
			e.Slip.Wants = append(e.Slip.Wants, on("service", d.hallName(), d.hallNumber()))
		}
	case impl.HallDraw, impl.HallBack, impl.HallBound:
		e.Team, e.Resource = d.hallName(), d.hallName()
		if e.Kind != impl.HallBound {
			e.Door = d.hallName()
		}
		if e.Kind != impl.HallBack {
			e.Amount = d.hallNumber()
		}
	case impl.HallAct:
		e.Act = d.hallAct()
	case impl.HallSea:
		e.Sea = d.hallSea()
	}
	return e
}

// hallSpoilValue puts something else into a part of an entry, which may do as well.
func (d *dice) hallSpoilValue(part reflect.Value) {
	switch part.Kind() {
	case reflect.String:
		part.SetString(pick(d, "", "*", "A", "a,b", "a b", "a:0", letters(17), d.hallName()))
	case reflect.Int:
		part.SetInt(int64(pick(d, -1, 0, 9, 10, 10000000, math.MaxInt, math.MinInt, d.roll(10), d.hallNumber())))
	case reflect.Bool:
		part.SetBool(!part.Bool())
	case reflect.Struct:
		d.hallSpoilValue(part.Field(d.roll(part.NumField())))
	case reflect.Slice:
		if part.Len() > 0 && d.roll(3) > 0 {
			d.hallSpoilValue(part.Index(d.roll(part.Len())))
		} else if part.Len() > 0 && d.roll(2) == 0 {
			part.Set(part.Slice(1, part.Len()))
		} else {
			part.Set(reflect.Append(part, reflect.Zero(part.Type().Elem())))
		}
	}
}

// hallSpoil turns a part of an entry, one that it has about every second time.
func (d *dice) hallSpoil(e *entry) {
	var parts, set []reflect.Value
	hallLeaves(e, func(path string, part reflect.Value) {
		parts = append(parts, part)
		if !part.IsZero() {
			set = append(set, part)
		}
	})
	if d.roll(2) == 0 {
		parts = set
	}
	d.hallSpoilValue(pick(d, parts...))
}

// Promise 34, from the entry: HallRead of HallForm is the entry, for every one that has a form.
func TestHallReadOfForm(t *testing.T) {
	t.Parallel()
	d := dice(34)
	forms, none := map[int]int{}, map[int]int{}
	for range 60000 {
		e := d.hallEntry()
		for range d.roll(3) {
			d.hallSpoil(&e)
		}
		form := hallFormAsRead(e)
		checkForm(t, "made up", e, form)
		if t.Failed() {
			t.Fatalf("%+v", e)
		}
		if form == "" {
			none[e.Kind]++
		} else {
			forms[e.Kind]++
		}
	}
	for kind := 1; kind <= 8; kind++ {
		if forms[kind] < 1000 || none[kind] < 1000 {
			t.Errorf("Kind %d: %d with a form, %d without", kind, forms[kind], none[kind])
		}
	}
}

// hallTurnWords is a text with a word more, less, or another.
func (d *dice) hallTurnWords(text string) string {
	words := strings.Split(text, " ")
	at := d.roll(len(words))
	other := pick(d, "", "*", "a", "0", "1", "01", "A", "a:1", "a:1,b:2", "1:1", ",,,,,", "1,2,3,4,5,6", "a,b", "drop", "tick", "make", "take", "sea", "time", "sweep", d.hallName(), strconv.Itoa(d.hallNumber()))
	switch d.roll(5) {
	case 0:
		words = slices.Insert(words, at, other)
	case 1:
		words = slices.Delete(words, at, at+1)
	case 2:
		swapTwo(d, words)
	default:
		words[at] = other
	}
	return strings.Join(words, " ")
}

// hallTurnBytes is a text with a byte more, less, or another.
func (d *dice) hallTurnBytes(text string) string {
	at := d.roll(len(text) + 1)
	other := string([]byte{pick(d, ' ', ',', ':', '*', '0', '1', 'a', 'z', '-', 'A', '+', '.', '\n', '\t', 0, 0xff, byte(d.roll(256)))})
	ahead, behind := text[:at], text[at:]
	if behind != "" && d.roll(2) == 0 {
		behind = behind[1:]
	}
	if d.roll(3) == 0 {
		other = ""
	}
	return ahead + other + behind
}

// Promise 34, from the text: HallRead reads nothing but forms, each as the entry whose form it is.
func TestHallReadNothingElse(t *testing.T) {
	t.Parallel()
	d := dice(43)
	count := map[bool]int{}
	for range 60000 {
		text := hallTextOf(d.hallEntry())
		for range d.roll(3) {
			text = pick(&d, d.hallTurnBytes, d.hallTurnWords)(text)
		}
		count[checkText(t, text)]++
		if t.Failed() {
			t.FailNow()
		}
	}
	if count[true] < 20000 || count[false] < 20000 {
		t.Errorf("%v", count)
	}
}

// Texts of words of the forms, in any row, and of any bytes.
func TestHallReadAnything(t *testing.T) {
	t.Parallel()
	d := dice(3434)
	var pool []string
	for _, s := range hallSamples() {
		pool = append(pool, strings.Split(s.form, " ")...)
	}
	read := 0
	for range 60000 {
		var words []string
		for range 1 + d.roll(4) {
			words = append(words, pick(&d, pool...))
		}
		if checkText(t, strings.Join(words, " ")) {
			read++
		}
		bytes := make([]byte, d.roll(20))
		for i := range bytes {
			bytes[i] = byte(d.roll(256))
		}
		checkText(t, string(bytes))
	}
	if read < 50 {
		t.Errorf("%d texts were read", read)
	}
}
