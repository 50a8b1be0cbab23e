package tests

import (
	"fmt"
	"math"
	"slices"
	"testing"

	"loop.example/wharfdesk/impl"
)

// stewCalms lets rounds go by, and says that they lead to this world, that the arguments stay as they are, and that the answer is memory of its own; an ok world stays ok.
func stewCalms(t *testing.T, what string, w impl.StewWorld, rounds int, order []int, want impl.StewWorld) {
	t.Helper()
	// There is room behind the order for all six, so that one who puts them there is seen.
	w, order = spread(w), slices.Concat(order, slices.Repeat([]int{-99}, 8))[:len(order)]
	worldBefore, orderBefore := whole(w), whole(order)
	got := impl.StewCalm(w, rounds, order)
	if !same(got, want) {
		t.Errorf("%s: %+v, not %+v", what, got, want)
	}
	if !impl.StewWorldOk(got) {
		t.Errorf("%s: the world behind it is not ok", what)
	}
	if !same(whole(w), worldBefore) || !same(whole(order), orderBefore) {
		t.Errorf("%s: an argument was changed", what)
	}
	newMemory(t, what, got, w, order)
}

// stewByMoves is the moves of so many rounds, done one after the other, the stewards in just this order.
func stewByMoves(w impl.StewWorld, rounds int, turns ...int) impl.StewWorld {
	for range rounds {
		w, _ = impl.StewDo(w, impl.StewMove{Event: stewTickOf()})
		for _, kind := range turns {
			w, _ = impl.StewDo(w, stewLook(kind, 0))
		}
	}
	return w
}

// A fleet that is done tells by its Now how many rounds there were.
func TestStewCalmRounds(t *testing.T) {
	for rounds, want := range map[int]int{
		math.MinInt: 0, -1000: 0, -1: 0, 0: 0, 1: 1, 2: 2, 7: 7, 8: 8, 9: 9, 10: 10,
		999: 999, 1000: 1000, 1001: 1000, 2000: 1000, math.MaxInt: 1000,
	} {
		w := stewAlone(stewCalmFleet())
		for i := range want {
			next := w.Book
			next.Now = 40 + i + 1
			w = stewWorldOf(append(stewRemembered(w), next))
		}
		stewCalms(t, fmt.Sprintf("%d rounds", rounds), stewAlone(stewCalmFleet()), rounds, nil, w)
	}
	for _, rounds := range []int{math.MinInt, -1, 0} {
		for _, w := range []impl.StewWorld{{}, stewAlone(stewBusy()), stewTellsAge(8)} {
			for _, order := range [][]int{nil, {6, 5, 4, 3, 2, 1}, {0, 7}} {
				stewCalms(t, fmt.Sprintf("%d rounds", rounds), w, rounds, order, w)
			}
		}
	}
	stewCalms(t, "a round of nothing", impl.StewWorld{}, 1, nil, stewSince(1, 0))
	stewCalms(t, "many rounds of nothing", impl.StewWorld{}, 100, nil, stewSince(100, 92, 93, 94, 95, 96, 97, 98, 99))
}

// In which order the stewards come, whatever is told.
func TestStewCalmOrders(t *testing.T) {
	var long []int
	for i := range 5000 {
		long = append(long, i%13-6, 77-i)
	}
	for _, c := range []struct{ order, turns []int }{
		{nil, []int{1, 2, 3, 4, 5, 6}},
		{[]int{}, []int{1, 2, 3, 4, 5, 6}},
		{[]int{1, 2, 3, 4, 5, 6}, []int{1, 2, 3, 4, 5, 6}},
		{[]int{6, 5, 4, 3, 2, 1}, []int{6, 5, 4, 3, 2, 1}},
		{[]int{1}, []int{1, 2, 3, 4, 5, 6}},
		{[]int{6}, []int{6, 1, 2, 3, 4, 5}},
		{[]int{3}, []int{3, 1, 2, 4, 5, 6}},
		{[]int{2, 6}, []int{2, 6, 1, 3, 4, 5}},
		{[]int{5, 3, 4}, []int{5, 3, 4, 1, 2, 6}},
		{[]int{6, 4, 5, 3, 2}, []int{6, 4, 5, 3, 2, 1}},
		{[]int{9, 0, 3, 3}, []int{3, 1, 2, 4, 5, 6}},
		{[]int{0}, []int{1, 2, 3, 4, 5, 6}},
		{[]int{7}, []int{1, 2, 3, 4, 5, 6}},
		{[]int{-1, 8, math.MinInt, math.MaxInt}, []int{1, 2, 3, 4, 5, 6}},
		{[]int{7, 4, 0, 2, -3, 4}, []int{4, 2, 1, 3, 5, 6}},
		{[]int{3, 1, 3, 2, 1}, []int{3, 1, 2, 4, 5, 6}},
		{[]int{6, 6, 6, 5, 5, 4}, []int{6, 5, 4, 1, 2, 3}},
		{[]int{2, 2, 2, 2, 2, 2, 2, 2, 2}, []int{2, 1, 3, 4, 5, 6}},
		{[]int{6, 5, 4, 3, 2, 1, 1, 2, 3, 4, 5, 6}, []int{6, 5, 4, 3, 2, 1}},
		{long, []int{1, 2, 3, 4, 5, 6}},
		{append([]int{5, 2}, long...), []int{5, 2, 1, 3, 4, 6}},
	} {
		for rounds := range 5 {
			for _, w := range []impl.StewWorld{stewAlone(stewBusy()), {Past: stewTellsAge(8).Past[:3], Book: stewTurnedOf(stewBusy(), func(b *impl.StewBook) { b.Now = 90 })}} {
				stewCalms(t, fmt.Sprintf("%d rounds of %v", rounds, c.order[:min(12, len(c.order))]), w, rounds, c.order, stewByMoves(w, rounds, c.turns...))
			}
		}
	}
}

// permutations are all orders of 1 to n.
func permutations(n int) [][]int {
	if n == 0 {
		return [][]int{nil}
	}
	var list [][]int
	for _, shorter := range permutations(n - 1) {
		for at := range n {
			list = append(list, slices.Insert(slices.Clone(shorter), at, n))
		}
	}
	return list
}

// Every order: the same as the moves of which the rounds consist, and, of promise 20, done in the end.
func TestStewCalmEveryOrder(t *testing.T) {
	t.Parallel()
	ways := permutations(6)
	if len(ways) != 720 {
		t.Fatalf("%d orders", len(ways))
	}
	ends := map[string]int{}
	w := stewAlone(stewBusy())
	for _, order := range ways {
		for _, rounds := range []int{1, 3} {
			want := stewCalmBy(w, rounds, order)
			stewCalms(t, fmt.Sprintf("%d rounds of %v", rounds, order), w, rounds, order, want)
			if rounds == 3 {
				ends[fmt.Sprintf("%+v", want.Book)]++
			}
		}
		if end := impl.StewCalm(w, 60, order); !impl.StewDone(end.Book) {
			t.Errorf("%v: %+v", order, end.Book)
		}
	}
	// Were there but few, an order that is not kept would not be seen.
	if len(ends) < 50 {
		t.Errorf("%d different ends alone", len(ends))
	}
}

// At the last Now nothing happens any longer.
func TestStewCalmLastNow(t *testing.T) {
	at := func(now int) impl.StewWorld {
		return stewAlone(stewTurnedOf(stewBusy(), func(b *impl.StewBook) { b.Now = now }))
	}
	for _, rounds := range []int{1, 5, 1000} {
		stewCalms(t, "at the last Now", at(1000000), rounds, nil, at(1000000))
		ticked, _ := stewMovedBy(at(999999), impl.StewMove{Event: stewTickOf()})
		stewCalms(t, "one ahead of it", at(999999), rounds, nil, ticked)
		for _, order := range [][]int{nil, {3, 2}, {6, 5, 4, 3, 2, 1}} {
			stewCalms(t, "six ahead of it", at(999994), rounds, order, stewCalmBy(at(999994), min(rounds, 8), order))
		}
	}
}

func TestStewCalmNotOk(t *testing.T) {
	for what, w := range stewNotOk() {
		for _, rounds := range []int{-1, 0, 1, 5, 1000, 1001} {
			for _, order := range [][]int{nil, {3, 1}, {0}} {
				stewCalms(t, what, w, rounds, order, impl.StewWorld{})
			}
		}
	}
}

// A fleet without a berth that is not to be drained waits, and is done once there is one.
func TestStewCalmWaits(t *testing.T) {
	w := stewAlone(impl.StewBook{})
	for _, e := range []impl.StewEvent{stewWishOf(impl.StewService{Name: "web", Image: 1, Want: 3, Down: 1}), stewRaiseOf("dry", true)} {
		w, _ = impl.StewDo(w, impl.StewMove{Event: e})
	}
	w = impl.StewCalm(w, 300, nil)
	if count := impl.StewCountOf(w.Book, "web"); impl.StewDone(w.Book) || count != (impl.StewCount{Live: 3}) {
		t.Errorf("%+v", w.Book)
	}
	w, _ = impl.StewDo(w, impl.StewMove{Event: stewRaiseOf("wet", false)})
	for rounds, count := range []impl.StewCount{{Live: 3}, {Live: 3}, {Live: 3, Ready: 3}} {
		got := impl.StewCalm(w, rounds, nil)
		if impl.StewCountOf(got.Book, "web") != count || impl.StewDone(got.Book) != (rounds == 2) {
			t.Errorf("%d rounds: %+v", rounds, got.Book)
		}
	}
}

// stewAllFailed is led to from nothing: each of eight services is to have ten copies, and has twenty, all of which have failed.
func stewAllFailed(t *testing.T) impl.StewWorld {
	t.Helper()
	w := impl.StewWorld{}
	do := func(m impl.StewMove, times int) {
		t.Helper()
		for range times {
			next, codes := impl.StewDo(w, m)
			if slices.Max(codes) != 0 {
				t.Fatalf("%+v: %v", m, codes)
			}
			w = next
		}
	}
	do(impl.StewMove{Event: stewRaiseOf("wet", false)}, 1)
	for image := range 2 {
		for i := range impl.StewMaxServices {
			do(impl.StewMove{Event: stewWishOf(impl.StewService{Name: fmt.Sprintf("s%d", i), Image: image + 1, Want: 10, Over: 10})}, 1)
		}
		do(stewLook([]int{impl.StewCounter, impl.StewWaver}[image], 0), 1+9*image)
	}
	do(impl.StewMove{Event: stewTickOf()}, 2)
	for _, c := range w.Book.Copies {
		do(impl.StewMove{Event: stewFailOf(c.Service, c.Number)}, 1)
	}
	return w
}

// Where all that may be live failed, and the mender comes ahead of the counter, there is no room for all new ones at once: the others come a round later.
func TestStewCalmNoRoom(t *testing.T) {
	w := stewAllFailed(t)
	if len(w.Book.Copies) != 160 {
		t.Fatalf("%d copies", len(w.Book.Copies))
	}
	x, _ := impl.StewDo(w, impl.StewMove{Event: stewTickOf()})
	x, codes := impl.StewDo(x, stewLook(impl.StewMender, 0))
	if !slices.Equal(codes, make([]int, 8)) {
		t.Errorf("the mender: %v", codes)
	}
	x, codes = impl.StewDo(x, stewLook(impl.StewCounter, 0))
	if !slices.Equal(codes, []int{0, 0, 0, 0, 7, 7, 7, 7}) || len(x.Book.Copies) != impl.StewMaxCopies {
		t.Errorf("the counter: %v, and %d copies", codes, len(x.Book.Copies))
	}
	for _, order := range [][]int{nil, {impl.StewMender}, {6, 5, 4, 3, 2, 1}} {
		if got := impl.StewCalm(w, 300, order); !impl.StewDone(got.Book) {
			t.Errorf("%v: %+v", order, got.Book)
		}
	}
}
