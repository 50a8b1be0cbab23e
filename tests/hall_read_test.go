package tests

import (
	"slices"
	"strings"
	"testing"

	"loop.example/wharfdesk/impl"
)

// Texts that are almost a form, by what is the matter with them.
func TestHallReadAlmost(t *testing.T) {
	for what, list := range map[string][]string{
		"no words":             {"", " ", "  ", "*", ",", ":", "\x00", "\n"},
		"no kind":              {"1", "slips 1", "Time 4", "time4", "TIME 4", "timetime 4", "* 4", "7 4", "wish 4", "tick 4", " 4", "tim 4", "time\x00 4"},
		"no Number":            {"time", "sweep", "sea", "act", "slip", "draw", "time *", "sea tick", "back d1 dev copies", "time time"},
		"another Number":       {"time 0", "time 00", "time 01", "time 0000001", "time 1000001", "time 9999999", "time 10000000", "time 01000000", "time -1", "time +1", "time 1.0", "time 1e3", "time 0x1", "time 1_0", "time one", "time ١", "time 18446744073709551617"},
		"needless spaces":      {" time 4", "time  4", "time 4 ", "time 4  ", "  time 4", "time\t4", "time\n4", "time 4\n", "time\u00a04", "sea 1  tick", "sea 1 tick "},
		"words of other kinds": {"time 4 d1", "time 4 tick", "sweep 4 *", "back 1 d1 dev copies 5", "bound 1 d1 dev copies 5", "draw 1 dev copies 5", "draw 1 d1 dev copies", "bound 1 dev copies", "sea 4", "sea 4 5", "slip 1 tick", "act 1 tick", "sea 1 web 5 2 * * *", "act 1 d1 dev copies 5"},
		"events": {"sea 1 Tick", "sea 1 tick web", "sea 1 tick 1", "sea 1 fails web", "sea 1 fails 2", "sea 1 fails 2 web", "sea 1 fails web 2 3", "sea 1 fails web 02", "sea 1 fails web -2", "sea 1 fails web 10000000", "sea 1 fails Web 2",
			"sea 1 sink", "sea 1 sink a 1", "sea 1 sink *", "sea 1 raise", "sea 1 raise a drain", "sea 1 raise a *", "sea 1 drain", "sea 1 drain a 1", "sea 1 load web", "sea 1 load 30", "sea 1 load web *", "sea 1 wish web", "sea 1 2 web", "sea 1 *"},
		"acts": {"act 1 web 5 2 * *", "act 1 web 5 2 * * * *", "act 1 web 5 * * *", "act 1 5 2 * * *", "act 1 web 5 2", "act 1 web 5 2 3 * *", "act 1 web 5 2 3: * *", "act 1 web 5 2 :3 * *", "act 1 web 5 2 : * *", "act 1 web 5 2 3:1:1 * *", "act 1 web 5 2 3,1 * *", "act 1 web 5 2 *:* * *", "act 1 web 5 2 03:1 * *", "act 1 web 5 2 3:01 * *",
			"act 1 web 5 2 scale * *", "act 1 web 5 2 ** * *", "act 1 web 5 2 3:1,3:1 * *", "act 1 web 5 2 10000000:1 * *", "act 1 web 5 2 1:10000000 * *", "act 1 web 5 2 * 1 *", "act 1 web 5 2 * 1: *", "act 1 web 5 2 * :1 *", "act 1 web 5 2 * 1:4, *", "act 1 web 5 2 * ,1:4 *", "act 1 web 5 2 * 1:4,,2:5 *",
			"act 1 web 5 2 * 1:4,* *", "act 1 web 5 2 * 1:4,2 *", "act 1 web 5 2 * 1:4:5 *", "act 1 web 5 2 * 01:4 *", "act 1 web 5 2 * web:4 *", "act 1 web 5 2 * , *", "act 1 web 5 2 *  *", "act 1 web 5 2 * * Drop", "act 1 web 5 2 * * drops", "act 1 web 5 2 * * 1", "act 1 web 5 2 * * ", "act 1 web 5 2 * * drop,drop", "act 1 web 5 2 * * true"},
		"wants": {"slip 1 d1 1 web ann take 3", "slip 1 d1 1 web: ann take 3", "slip 1 d1 1 :1 ann take 3", "slip 1 d1 1 web:01 ann take 3", "slip 1 d1 1 web:1:1 ann take 3", "slip 1 d1 1 web:1, ann take 3", "slip 1 d1 1 ,web:1 ann take 3", "slip 1 d1 1 web:1,,db:1 ann take 3", "slip 1 d1 1 service:web:1 ann take 3", "slip 1 d1 1 web:-1 ann take 3",
			"slip 1 d1 1 *,web:1 ann take 3", "slip 1 d1 1 web:* ann take 3", "slip 1 d1 1 *:1 ann take 3", "slip 1 d1 1 web:x ann take 3", "slip 1 d1 1 web:10000000 ann take 3", "slip 1 d1 1 aaaaaaaaaaaaaaaaa:1 ann take 3", "slip 1 d1 1 , ann take 3", "slip 1 d1 1  ann take 3", "slip 1 d1 1 ann take 3", "slip 1 d1 1 0 ann take 3"},
		"slips": {"slip 1 d1 1 * ann", "slip 1 d1 1 * take 3", "slip 1 d1 * ann take 3", "slip 1 1 * ann take 3", "slip 1 d1 01 * ann take 3", "slip 1 d1 -1 * ann take 3", "slip 1 * 1 * ann take 3", "slip 1 d1 1 * * take 3", "slip 1 D 1 * ann take 3", "slip 1 d1 1 * Ann take 3", "slip 1 d1 1 * ann Take 3", "slip 1 d1 1 * ann taken 3", "slip 1 d1 1 * ann 6 3", "slip 1 d1 1 * ann * 3",
			"slip 1 d1 1 * ann take", "slip 1 d1 1 * ann take 3 4", "slip 1 d1 1 * ann take 03", "slip 1 d1 1 * ann take *", "slip 1 d1 1 * ann take bob", "slip 1 d1 1 * ann end web", "slip 1 d1 1 * ann end 0", "slip 1 d1 1 * ann end web 0 0", "slip 1 d1 1 * ann end web *", "slip 1 d1 1 * ann end service web 0", "slip 1 d1 1 * ann letgo web", "slip 1 d1 1 * ann letgo web *", "slip 1 d1 1 * ann letgo web a b", "slip 1 d1 1 * ann letgo web a,b"},
		"values": {"slip 1 d1 1 * ann make web dev fleet 1,2,,1,", "slip 1 d1 1 * ann make web dev fleet 1,2,,1,,,", "slip 1 d1 1 * ann make web dev fleet *", "slip 1 d1 1 * ann make web dev fleet", "slip 1 d1 1 * ann make web dev fleet ", "slip 1 d1 1 * ann make web dev 1,2,,1,,", "slip 1 d1 1 * ann make web fleet 1,2,,1,,", "slip 1 d1 1 * ann make web dev fleet 1,2,*,1,,", "slip 1 d1 1 * ann make web dev fleet 1,2,,1,,A", "slip 1 d1 1 * ann make web dev fleet 1,2,,1,,a:1",
			"slip 1 d1 1 * ann make web dev fleet 1,2,,1,,aaaaaaaaaaaaaaaaa", "slip 1 d1 1 * ann make web dev fleet 1,2,,1,,+1", "slip 1 d1 1 * ann make web dev fleet 1,2, ,1,,", "slip 1 d1 1 * ann make web dev fleet 1,2,,1,, 1", "slip 1 d1 1 * ann change web 4", "slip 1 d1 1 * ann change web 1,2,,1,,", "slip 1 d1 1 * ann change web 4 *", "slip 1 d1 1 * ann change web 4 ,,,,", "slip 1 d1 1 * ann change web 4 ,,,,,,", "slip 1 d1 1 * ann change web 04 ,,,,,", "slip 1 d1 1 * ann change web * ,,,,,", "slip 1 d1 1 * ann change web 4 fleet ,,,,,"},
		"holds": {"slip 1 d1 1 * ann make web dev fleet, ,,,,,", "slip 1 d1 1 * ann make web dev ,fleet ,,,,,", "slip 1 d1 1 * ann make web dev a,,b ,,,,,", "slip 1 d1 1 * ann make web dev , ,,,,,", "slip 1 d1 1 * ann make web dev  ,,,,,", "slip 1 d1 1 * ann make web dev ** ,,,,,", "slip 1 d1 1 * ann make web dev *,a ,,,,,", "slip 1 d1 1 * ann make web dev A ,,,,,", "slip 1 d1 1 * ann make web dev a:1 ,,,,,", "slip 1 d1 1 * ann make web dev none, ,,,,,"},
		"rules": {"slip 1 d1 1 * ann give bob * * lab w", "slip 1 d1 1 * ann give bob 1 * lab", "slip 1 d1 1 * ann give bob 1 * lab w x", "slip 1 d1 1 * ann give bob  * lab w", "slip 1 d1 1 * ann give bob 1,2 * lab w", "slip 1 d1 1 * ann give bob 1a * lab w", "slip 1 d1 1 * ann give bob -1 * lab w", "slip 1 d1 1 * ann give bob 1*2 * lab w", "slip 1 d1 1 * ann give * 1 * lab w", "slip 1 d1 1 * ann give 1 * lab w",
			"slip 1 d1 1 * ann give bob 1 ** lab w", "slip 1 d1 1 * ann give bob 1 * lab w*", "slip 1 d1 1 * ann give bob 1  lab w", "slip 1 d1 1 * ann give bob 1 *  w", "slip 1 d1 1 * ann give bob 1 * lab ", "slip 1 d1 1 * ann give bob 1 Service lab w", "slip 1 d1 1 * ann give bob 1 * a,b w", "slip 1 d1 1 * ann give bob 1 * lab aaaaaaaaaaaaaaaaa", "slip 1 d1 1 * ann give bob ١ * lab w"},
		"draws, backs and bounds": {"draw 1 d1 dev copies -1", "draw 1 d1 dev copies 05", "draw 1 d1 dev copies 10000000", "draw 1 d1 dev copies *", "draw 1 d1 dev 5", "draw 1 d1 dev copies 5 5", "draw 1 * dev copies 5", "draw 1 d1 * copies 5", "draw 1 d1 dev * 5", "draw 1 d1 dev,lab copies 5", "draw 1 D1 dev copies 5", "draw 1 aaaaaaaaaaaaaaaaa dev copies 5", "back 1 d1 dev", "back 1 d1 dev *", "back 1 d1 dev copies 0", "bound 1 dev copies -0", "bound 1 dev copies 00", "bound 1 dev *"},
	} {
		for _, text := range list {
			if hallIsForm(text) {
				t.Errorf("%s: %q is a form", what, text)
			}
			checkUnread(t, what, text)
		}
	}
}

// Each form with any byte more, another, or less, at every place; each with a word more or less; words doubled and swapped.
func TestHallReadAround(t *testing.T) {
	count := map[bool]int{}
	check := func(text string) { count[checkText(t, text)]++ }
	for _, s := range hallSamples() {
		for at := range len(s.form) + 1 {
			ahead, behind := s.form[:at], s.form[at:]
			for _, c := range []byte(" ,:*-09az+.AZ`{/;_\t\n\x00\x7f\x80\xff") {
				check(ahead + string([]byte{c}) + behind)
				if behind != "" {
					check(ahead + string([]byte{c}) + behind[1:])
				}
			}
			check(ahead)
			check(behind)
			if behind != "" {
				check(ahead + behind[1:])
				check(ahead + strings.ToUpper(behind[:1]) + behind[1:])
			}
		}
		words := strings.Split(s.form, " ")
		for i := range words {
			check(strings.Join(slices.Delete(slices.Clone(words), i, i+1), " "))
			check(strings.Join(slices.Insert(slices.Clone(words), i, words[i]), " "))
			for j := range words {
				swapped := slices.Clone(words)
				swapped[i], swapped[j] = swapped[j], swapped[i]
				check(strings.Join(swapped, " "))
			}
		}
		for _, other := range hallSamples() {
			check(s.form + other.form)
			check(s.form + " " + other.form)
		}
	}
	if count[true] < 1000 || count[false] < 10000 {
		t.Errorf("%v", count)
	}
}

// A text of the most bytes is read, if it is a form, and one of a byte more is not, though it has the words of one.
func TestHallReadSize(t *testing.T) {
	head := "slip 1 d1 1 * ann give bob "
	tail := " * * *"
	for n := 1; n <= 200; n++ {
		text := head + strings.Repeat("7", n) + tail
		if got, ok := impl.HallRead(text); ok != (len(text) <= 160) || ok && len(got.Slip.Ask.Rule.Verbs) != n {
			t.Errorf("%d bytes: %v", len(text), ok)
		}
		checkText(t, text)
	}
	for _, size := range []int{159, 160, 161, 1000, 1000000} {
		for _, part := range []string{"a", "0", " ", ",", "*", ":", "time 4 ", "\xff"} {
			checkUnread(t, "a long text", strings.Repeat(part, size/len(part)))
		}
	}
}
