package engine

import "sync"

// deal has the work of each number below n done by workers at the same time, and
// tells how much of it was done. Each work must write where no other does: which
// worker is dealt which number is nobody's to know.
func deal(n, workers int, work func(i int)) int {
	numbers := make(chan int)
	var all sync.WaitGroup
	var guard sync.Mutex
	done := 0
	for range min(n, workers) {
		all.Add(1)
		go func() {
			defer all.Done()
			for i := range numbers {
				work(i)
				guard.Lock()
				done++
				guard.Unlock()
			}
		}()
	}
	for i := range n {
		numbers <- i
	}
	close(numbers)
	all.Wait()
	return done
}
