package engine

import (
	"runtime"
	"sync"
	"sync/atomic"
	"testing"
)

// Each number is dealt just once, and all of them are counted, by however many workers.
func TestDealAll(t *testing.T) {
	for _, n := range []int{0, 1, 2, 3, 16, 17, 100, 1024} {
		for workers := 1; workers <= 16; workers++ {
			times := make([]int, n)
			if done := deal(n, workers, func(i int) { times[i]++ }); done != n {
				t.Errorf("%d numbers, %d workers: %d were done", n, workers, done)
			}
			for i, k := range times {
				if k != 1 {
					t.Errorf("%d numbers, %d workers: number %d was dealt %d times", n, workers, i, k)
				}
			}
		}
	}
}

// P17.8: as many work at the same time as there are workers, and no more: each work waits until all workers are at one.
func TestDealAtTheSameTime(t *testing.T) {
	for workers := 1; workers <= 16; workers++ {
		var here sync.WaitGroup
		here.Add(workers)
		deal(workers, workers, func(int) {
			here.Done()
			here.Wait()
		})
		var now, most atomic.Int64
		deal(200, workers, func(int) {
			k := now.Add(1)
			for m := most.Load(); k > m && !most.CompareAndSwap(m, k); m = most.Load() {
			}
			for range 20 { // time for others to come
				runtime.Gosched()
			}
			now.Add(-1)
		})
		if most.Load() > int64(workers) {
			t.Errorf("%d at the same time, %d workers", most.Load(), workers)
		}
	}
}
