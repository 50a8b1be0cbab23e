package tests

import (
	"runtime"
	"sync"
	"testing"
	"time"
)

// question is something that is asked, and its answer the first time.
type question[T any] struct {
	ask  func() T
	want T
}

func questionOf[T any](ask func() T) question[T] {
	return question[T]{ask, ask()}
}

// askSideBySide says that each answer is the same whoever else asks at that time, on one processor, on two, and on more than there are.
func askSideBySide[T any](t *testing.T, questions []question[T]) {
	t.Helper()
	before := runtime.GOMAXPROCS(0)
	defer runtime.GOMAXPROCS(before)
	for _, procs := range []int{1, 2, before + 3} {
		runtime.GOMAXPROCS(procs)
		var joined sync.WaitGroup
		for asker := range 8 {
			joined.Go(func() {
				for i := range questions {
					q := questions[(i+asker*asker)%len(questions)]
					if got := q.ask(); !same(got, q.want) {
						t.Errorf("%+v, not %+v", got, q.want)
					}
				}
			})
		}
		joined.Wait()
	}
}

// leavesNobody says that all that calls began has ended when they have answered.
func leavesNobody[T any](t *testing.T, questions []question[T]) {
	t.Helper()
	before := runtime.NumGoroutine()
	for range 5 {
		for _, q := range questions {
			q.ask()
		}
	}
	// One that has told that it is at its end may still be on its way out.
	for range 100 {
		if runtime.NumGoroutine() <= before {
			return
		}
		time.Sleep(10 * time.Millisecond)
	}
	t.Errorf("%d goroutines, and there were %d", runtime.NumGoroutine(), before)
}
