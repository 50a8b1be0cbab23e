package tests

import (
	"math"
	"testing"

	"loop.example/wharfdesk/impl"
)

func TestRecNextBallot(t *testing.T) {
	for _, c := range []struct{ above, number, of, want int }{
		// Each number of each Of, from nothing on.
		{0, 1, 1, 1},
		{0, 1, 2, 1}, {0, 2, 2, 2},
		{0, 1, 3, 1}, {0, 2, 3, 2}, {0, 3, 3, 3},
		{0, 1, 4, 1}, {0, 2, 4, 2}, {0, 3, 4, 3}, {0, 4, 4, 4},
		{0, 1, 5, 1}, {0, 2, 5, 2}, {0, 3, 5, 3}, {0, 4, 5, 4}, {0, 5, 5, 5},
		// Its own ballot is not above itself.
		{1, 1, 1, 2}, {7, 1, 1, 8}, {1, 1, 2, 3}, {2, 2, 2, 4}, {2, 2, 3, 5}, {3, 3, 3, 6}, {4, 4, 4, 8}, {5, 5, 5, 10}, {10, 5, 5, 15},
		// Ahead of and behind it.
		{5, 3, 3, 6}, {6, 3, 3, 9}, {6, 1, 3, 7}, {6, 2, 3, 8}, {7, 1, 3, 10}, {9, 5, 5, 10}, {11, 5, 5, 15}, {11, 1, 5, 16}, {12, 1, 5, 16},
		// Near to the end: 1000000 leaves 0, 0, 1, 0 and 0.
		{999998, 1, 1, 999999}, {999999, 1, 1, 1000000}, {1000000, 1, 1, 0},
		{999998, 1, 2, 999999}, {999999, 1, 2, 0}, {999998, 2, 2, 1000000}, {999999, 2, 2, 1000000}, {1000000, 2, 2, 0},
		{999997, 1, 3, 1000000}, {999999, 1, 3, 1000000}, {1000000, 1, 3, 0},
		{999997, 2, 3, 999998}, {999998, 2, 3, 0}, {999999, 2, 3, 0},
		{999998, 3, 3, 999999}, {999999, 3, 3, 0}, {1000000, 3, 3, 0},
		{999996, 4, 4, 1000000}, {999999, 4, 4, 1000000}, {999999, 3, 4, 0}, {999996, 1, 4, 999997}, {999997, 1, 4, 0},
		{999995, 5, 5, 1000000}, {999999, 5, 5, 1000000}, {999999, 4, 5, 0}, {999995, 1, 5, 999996}, {999996, 1, 5, 0},
	} {
		if got := impl.RecNextBallot(c.above, c.number, c.of); got != c.want {
			t.Errorf("above %d, %d of %d: %d, not %d", c.above, c.number, c.of, got, c.want)
		}
	}
}

// What is above nothing that is a ballot, and recorders that are not there.
func TestRecNextBallotOfNothing(t *testing.T) {
	for of := 1; of <= 5; of++ {
		for number := 1; number <= of; number++ {
			for _, above := range []int{-1, -2, -5, -1000000, math.MinInt, math.MinInt + 1, 1000000 + 1, 1000000 + of, 2000000, math.MaxInt, math.MaxInt - 1} {
				if got := impl.RecNextBallot(above, number, of); got != 0 {
					t.Errorf("above %d, %d of %d: %d", above, number, of, got)
				}
			}
		}
	}
	for _, above := range []int{0, 1, 7, 999990, 999999, 1000000, -1, 1000001, math.MinInt, math.MaxInt} {
		for of := 1; of <= 5; of++ {
			for _, number := range []int{0, -1, -of, of + 1, 2 * of, 6, 100, math.MinInt, math.MaxInt} {
				if got := impl.RecNextBallot(above, number, of); got != 0 {
					t.Errorf("above %d, %d of %d: %d", above, number, of, got)
				}
			}
		}
		for _, of := range []int{0, -1, -3, -5, 6, 7, 100, 1000000, math.MinInt, math.MaxInt} {
			for _, number := range []int{0, 1, 2, 5, 6, -1, of, math.MinInt, math.MaxInt} {
				if got := impl.RecNextBallot(above, number, of); got != 0 {
					t.Errorf("above %d, %d of %d: %d", above, number, of, got)
				}
			}
		}
	}
}

// Promise 25, of all that may be asked for: above it, the least one, none left out, and nobody else's.
func TestRecPromise25(t *testing.T) {
	t.Parallel()
	for of := 1; of <= 5; of++ {
		owner := make([]int8, 1000001)
		for number := 1; number <= of; number++ {
			// Gone through from the end, the next one is the one that was seen last.
			next := 0
			for above := 1000000; above >= 0; above-- {
				got := impl.RecNextBallot(above, number, of)
				if got != next || got != 0 && got <= above {
					t.Fatalf("above %d, %d of %d: %d, not %d", above, number, of, got, next)
				}
				if got > 0 && owner[got] != 0 && owner[got] != int8(number) {
					t.Fatalf("%d of %d: both %d and %d have the ballot %d", number, of, owner[got], number, got)
				}
				owner[got] = int8(number)
				if above%of == number || above%of == 0 && number == of {
					next = above
				}
			}
		}
		for ballot, number := range owner[1:] {
			if number == 0 {
				t.Fatalf("of %d: nobody has the ballot %d", of, ballot+1)
			}
		}
	}
}
