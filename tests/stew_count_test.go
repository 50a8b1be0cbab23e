package tests

import (
	"testing"

	"loop.example/wharfdesk/impl"
)

// stewLone is of one service, of Image 5, with these copies; their Service, Number, Version and Berth are put in.
func stewLone(copies ...impl.StewCopy) impl.StewBook {
	b := impl.StewBook{
		Now:      30,
		Services: []impl.StewService{{Name: "web", Version: 4, Image: 5, Want: 2, Down: 1, Next: len(copies) + 1}},
		Berths:   []impl.StewBerth{{Name: "b1", Drain: true}, {Name: "b2"}},
	}
	for i, c := range copies {
		c.Service, c.Number, c.Version = "web", i+1, 1+i
		if c.State != impl.StewWaiting {
			c.Berth = []string{"b1", "b2"}[i%2]
		}
		b.Copies = append(b.Copies, c)
	}
	return b
}

func stewLive(image, state int) impl.StewCopy {
	return impl.StewCopy{Image: image, State: state}
}

func stewEnding(image, state int) impl.StewCopy {
	return impl.StewCopy{Image: image, State: state, Ending: true}
}

// stewCounts says what is counted of web, that the book stays as it is, and that the book is valid (so that an answer of nothing is no accident).
func stewCounts(t *testing.T, what string, b impl.StewBook, service string, want impl.StewCount) {
	t.Helper()
	b = spread(b)
	before := whole(b)
	if !impl.StewValid(b) {
		t.Errorf("%s: the book is not valid", what)
	}
	if got := impl.StewCountOf(b, service); got != want {
		t.Errorf("%s: %+v, not %+v", what, got, want)
	}
	if !same(whole(b), before) {
		t.Errorf("%s: the book was changed", what)
	}
}

func TestStewCountOfOne(t *testing.T) {
	for _, c := range []struct {
		what string
		copy impl.StewCopy
		want impl.StewCount
	}{
		{"waiting", stewLive(5, 1), impl.StewCount{Live: 1}},
		{"starting", stewLive(5, 2), impl.StewCount{Live: 1}},
		{"ready", stewLive(5, 3), impl.StewCount{Live: 1, Ready: 1}},
		{"failed", stewLive(5, 4), impl.StewCount{Live: 1, Failed: 1}},
		{"waiting, of a lower Image", stewLive(4, 1), impl.StewCount{Live: 1, Old: 1}},
		{"starting, of a lower Image", stewLive(4, 2), impl.StewCount{Live: 1, Old: 1}},
		{"ready, of a lower Image", stewLive(4, 3), impl.StewCount{Live: 1, Ready: 1, Old: 1}},
		{"failed, of a lower Image", stewLive(4, 4), impl.StewCount{Live: 1, Old: 1, Failed: 1}},
		{"ready, of a higher Image", stewLive(6, 3), impl.StewCount{Live: 1, Ready: 1, Old: 1}},
		{"waiting, of a higher Image", stewLive(1000000, 1), impl.StewCount{Live: 1, Old: 1}},
		{"ending, waiting", stewEnding(5, 1), impl.StewCount{Ending: 1}},
		{"ending, starting", stewEnding(5, 2), impl.StewCount{Ending: 1}},
		{"ending, ready", stewEnding(5, 3), impl.StewCount{Ending: 1}},
		{"ending, failed", stewEnding(5, 4), impl.StewCount{Ending: 1}},
		{"ending, waiting, of a lower Image", stewEnding(4, 1), impl.StewCount{Ending: 1}},
		{"ending, starting, of a lower Image", stewEnding(4, 2), impl.StewCount{Ending: 1}},
		{"ending, ready, of a lower Image", stewEnding(4, 3), impl.StewCount{Ending: 1}},
		{"ending, failed, of a lower Image", stewEnding(4, 4), impl.StewCount{Ending: 1}},
		{"ending, ready, of a higher Image", stewEnding(6, 3), impl.StewCount{Ending: 1}},
	} {
		stewCounts(t, c.what, stewLone(c.copy), "web", c.want)
		// One more that is as simple as can be counts for itself.
		more := c.want
		more.Live++
		stewCounts(t, c.what+", ahead of another", stewLone(c.copy, stewLive(5, 1)), "web", more)
		stewCounts(t, c.what+", behind another", stewLone(stewLive(5, 1), c.copy), "web", more)
	}
}

func TestStewCountOfMany(t *testing.T) {
	mixed := stewLone(
		stewEnding(4, 3), stewLive(5, 3), stewLive(4, 3), stewLive(5, 4), stewEnding(5, 4), stewLive(6, 4),
		stewLive(5, 1), stewLive(5, 2), stewEnding(5, 1), stewLive(3, 1), stewLive(5, 3), stewEnding(9, 2),
	)
	stewCounts(t, "all kinds", mixed, "web", impl.StewCount{Live: 8, Ready: 3, Old: 3, Failed: 2, Ending: 4})
	stewCounts(t, "no copies", stewLone(), "web", impl.StewCount{})

	gone := stewLone(stewLive(5, 3), stewLive(4, 1), stewEnding(5, 3))
	gone.Services[0].Gone = true
	stewCounts(t, "Gone", gone, "web", impl.StewCount{Live: 2, Ready: 1, Old: 1, Ending: 1})

	stewCounts(t, "all that there may be", stewCrowd(8, 200, 6), "s07", impl.StewCount{Live: 200})
	stewCounts(t, "all that there may be, of another", stewCrowd(8, 200, 6), "s06", impl.StewCount{})
	stewCounts(t, "nothing at all", impl.StewBook{}, "web", impl.StewCount{})
	stewCounts(t, "nothing at all, of no name", impl.StewBook{}, "", impl.StewCount{})
}

// Each service of the fleet by itself, and what is none.
func TestStewCountOfServices(t *testing.T) {
	for service, want := range map[string]impl.StewCount{
		"api":   {Live: 2, Ready: 1, Old: 1},
		"old":   {Ending: 1},
		"spare": {},
		"web":   {Live: 3, Ready: 1, Old: 1, Failed: 1, Ending: 1},

		"":      {},
		"a":     {},
		"ap":    {},
		"apis":  {},
		"we":    {},
		"webs":  {},
		"WEB":   {},
		"b1":    {},
		"web ":  {},
		"\xff":  {},
		"zebra": {},
	} {
		stewCounts(t, service, stewFleet(), service, want)
	}
	// A service's Image is its own: what is old of one may be new of the next.
	b := stewFleet()
	b.Services[stewApi].Image, b.Services[stewWeb].Image = 6, 1
	stewCounts(t, "api of another Image", b, "api", impl.StewCount{Live: 2, Ready: 1, Old: 1})
	stewCounts(t, "web of another Image", b, "web", impl.StewCount{Live: 3, Ready: 1, Old: 2, Failed: 1, Ending: 1})
}

func TestStewCountOfNotValid(t *testing.T) {
	for what, turn := range map[string]stewTurn{
		"Now":                      func(b *impl.StewBook) { b.Now = 1000001 },
		"Now below a Version":      func(b *impl.StewBook) { b.Now = 39 },
		"a service":                stewOfService(stewWeb, func(s *impl.StewService) { s.Image = 0 }),
		"another service":          stewOfService(stewApi, func(s *impl.StewService) { s.Cool = 4 }),
		"a Per of 0":               stewOfService(stewApi, func(s *impl.StewService) { s.Per = 0 }),
		"a service twice":          func(b *impl.StewBook) { b.Services = append(b.Services, b.Services[stewWeb]) },
		"services out of order":    func(b *impl.StewBook) { stewSwap(b.Services, 0, 1) },
		"a copy":                   stewOfCopy(stewReadyCopy, func(c *impl.StewCopy) { c.State = 0 }),
		"another's copy":           stewOfCopy(stewFirstCopy, func(c *impl.StewCopy) { c.Image = 0 }),
		"a copy that is Ending":    stewOfCopy(stewLastCopy, func(c *impl.StewCopy) { c.Number = 20 }),
		"a copy of no service":     func(b *impl.StewBook) { b.Services = b.Services[stewOld:] },
		"copies out of order":      func(b *impl.StewBook) { stewSwap(b.Copies, stewReadyCopy, stewFailedCopy) },
		"a copy on no berth":       stewOfCopy(stewReadyCopy, func(c *impl.StewCopy) { c.Berth = "" }),
		"a copy that waits at one": stewOfCopy(stewWaitingCopy, func(c *impl.StewCopy) { c.Berth = "b1" }),
		"a berth":                  func(b *impl.StewBook) { b.Berths[0].Name = "B1" },
		"a berth that is not used": func(b *impl.StewBook) { b.Berths = append(b.Berths, impl.StewBerth{Name: ""}) },
		"berths out of order":      func(b *impl.StewBook) { stewSwap(b.Berths, 0, 2) },
		"without berths":           func(b *impl.StewBook) { b.Berths = nil },
		"one berth too many":       func(b *impl.StewBook) { b.Berths = stewCrowd(0, 0, 7).Berths; b.Copies = nil },
		"one service too many": func(b *impl.StewBook) {
			b.Services = append(stewCrowd(8, 0, 0).Services, b.Services[stewWeb])
			b.Copies = b.Copies[stewReadyCopy:]
		},
		"a service that has no name": func(b *impl.StewBook) { b.Services[0].Name = "" },
	} {
		b := spread(stewTurned(turn))
		before := whole(b)
		if impl.StewValid(b) {
			t.Errorf("%s: valid", what)
		}
		for _, service := range []string{"api", "old", "spare", "web", "none", ""} {
			if got := impl.StewCountOf(b, service); got != (impl.StewCount{}) {
				t.Errorf("%s: %+v of %q", what, got, service)
			}
		}
		if !same(whole(b), before) {
			t.Errorf("%s: the book was changed", what)
		}
	}
}
