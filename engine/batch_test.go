package engine_test

import (
	"fmt"
	"runtime"
	"slices"
	"sync"
	"testing"
	"time"

	"slope/api"
	"slope/engine"
)

// batchText is a batch's answers, a line each.
func batchText(l []api.Answer) string {
	s := ""
	for _, a := range l {
		s += answerText(a.M, a.Sweeps, a.Place, a.Err) + "\n"
	}
	return s
}

// oneByOne are the answers of Jacobian, point by point.
func oneByOne(x api.Tape, points [][]api.Rat, plan api.Plan) string {
	s := ""
	for _, at := range points {
		s += answerText(engine.Jacobian(x, at, plan)) + "\n"
	}
	return s
}

// points are so many for a tape: most of them may be, some are no points, have numbers that may not be, or are large.
func (d *dice) points(x api.Tape, n int) [][]api.Rat {
	return some(n, func(int) []api.Rat {
		at := d.point(max(0, min(x.Inputs, 7)))
		switch k := d.next(8); {
		case k == 0:
			at = append(at, num("1"))
		case k == 1 && len(at) > 0:
			at[d.next(len(at))] = pick(d, wrongNumbers()...)
		case k == 2 && len(at) > 0:
			at[d.next(len(at))] = power2(8000 + d.next(400))
		case k == 3:
			at = nil
		}
		return at
	})
}

// P17.8, G10: many points are answered as one by one, in their order, by every number of workers: matrices, sweeps, places, errors.
func TestBatch(t *testing.T) {
	t.Parallel()
	d := dice(20)
	met := map[api.Errno]int{}
	for i := range 120 {
		x := d.tape(12)
		if i%10 == 9 {
			x.Outs = append(x.Outs, len(x.Ops)+d.next(3))
		}
		points := d.points(x, d.next(20))
		for _, plan := range d.jacobianPlans(x) {
			if i%5 == 4 {
				plan = api.Plan{Mode: api.Mode(d.next(5)), Order: api.OrderKind(d.next(7)), Script: d.shuffle(d.next(4)), Workers: plan.Workers}
			}
			l, e := engine.Batch(x, points, plan)
			if want := oneByOne(x, points, plan); e != api.OK || len(l) != len(points) || batchText(l) != want {
				t.Errorf("Batch: error %d, %s, want %s: %s, plan %v", e, short(batchText(l)), short(want), showTape(x), plan)
			}
			for _, a := range l {
				met[a.Err]++
			}
		}
	}
	for _, e := range []api.Errno{api.OK, api.ErrPoint, api.ErrRat, api.ErrPole, api.ErrLarge, api.ErrOut, api.ErrMode, api.ErrOrderKind, api.ErrOrder} {
		if met[e] < 20 {
			t.Errorf("error %d was met %d times", e, met[e])
		}
	}
}

// P17.8: points of every outcome in one batch, told by hand.
func TestBatchOutcomes(t *testing.T) {
	x := page(t)
	points := [][]api.Rat{nums("3 1/2"), nums("3 0"), nums("3"), {num("3"), {}}, {power2(9000), num("1")}, nums("0 1"), nil}
	want := "2 sweeps, place 0, error 0, 2 by 2 | 0,0: 5/2 0,1: 9 1,0: 1 1,1: 0\n" +
		faultText(fault{5, api.ErrPole}) + "\n" + faultText(fault{0, api.ErrPoint}) + "\n" + faultText(fault{1, api.ErrRat}) + "\n" + faultText(fault{0, api.ErrLarge}) + "\n" +
		"2 sweeps, place 0, error 0, 2 by 2 | 0,0: 1 0,1: 0 1,0: 1 1,1: 0\n" + faultText(fault{0, api.ErrPoint}) + "\n"
	for workers := 1; workers <= api.MaxWorkers; workers++ {
		l, e := engine.Batch(x, points, api.Plan{Mode: api.ModeRows, Order: api.OrderLargest, Workers: workers})
		if e != api.OK || batchText(l) != want {
			t.Errorf("%d workers: error %d, %s", workers, e, batchText(l))
		}
	}
	// a tape or a plan that may not be is told at each point, behind the point's own faults
	l, e := engine.Batch(x, points, api.Plan{Workers: 3})
	if e != api.OK || l[0].Err != api.ErrMode || l[1].Err != api.ErrMode || l[2].Err != api.ErrPoint || l[3].Err != api.ErrRat || l[3].Place != 1 || l[4].Err != api.ErrMode {
		t.Errorf("no mode: error %d, %s", e, batchText(l))
	}
	x.Ops[3].A = 3
	l, e = engine.Batch(x, points, api.Plan{Workers: 3})
	if e != api.OK || batchText(l) != batchText(slices.Repeat([]api.Answer{{Place: 3, Err: api.ErrOperand}}, len(points))) {
		t.Errorf("no tape: error %d, %s", e, batchText(l))
	}
}

// P17.8: no points, one, MaxPoints and one more; the errors of the whole, ErrArg ahead of ErrWorkers, whatever the tape is.
func TestBatchSizes(t *testing.T) {
	t.Parallel()
	x := page(t)
	for _, n := range []int{0, 1, 2, 15, 16, 17, api.MaxPoints - 1, api.MaxPoints} {
		points := some(n, func(i int) []api.Rat { return []api.Rat{num(fmt.Sprint(i)), num(fmt.Sprint(i % 7))} })
		for _, plan := range []api.Plan{{Mode: api.ModeColumns, Order: api.OrderSmallest, Workers: 16}, {Mode: api.ModeDense, Workers: 3}, {Mode: api.ModeRows, Order: api.OrderScript, Script: []int{1, 0}, Workers: 1}} {
			l, e := engine.Batch(x, points, plan)
			if e != api.OK || len(l) != n || batchText(l) != oneByOne(x, points, plan) {
				t.Errorf("%d points: %d answers, error %d", n, len(l), e)
			}
		}
	}
	for _, y := range []api.Tape{x, {}, {Inputs: -1}} {
		for _, n := range []int{0, 1, api.MaxPoints, api.MaxPoints + 1, api.MaxPoints + 2, 5000} {
			for _, workers := range []int{-1 << 63, -1, 0, 1, 16, 17, 1<<63 - 1} {
				want := api.OK
				if n > api.MaxPoints {
					want = api.ErrArg
				} else if workers < 1 || workers > 16 {
					want = api.ErrWorkers
				}
				l, e := engine.Batch(y, make([][]api.Rat, n), api.Plan{Mode: 9, Workers: workers})
				if e != want || e == api.OK && len(l) != n || e != api.OK && l != nil {
					t.Errorf("%d points, %d workers: %d answers, error %d, want %d", n, workers, len(l), e, want)
				}
			}
		}
	}
}

// P17.10: all goroutines have ended when a call answers. (The runtime may still be at a goroutine's last step when the one that waits for it goes on.)
func TestGoroutinesEnd(t *testing.T) {
	x := squares(20)
	at := some(20, func(i int) api.Rat { return num(fmt.Sprint(i)) })
	w := all1(x)
	before := runtime.NumGoroutine()
	for range 50 {
		for _, m := range modes() {
			engine.Jacobian(x, at, api.Plan{Mode: m, Order: api.OrderNatural, Workers: 16})
		}
		for _, r := range routes() {
			engine.Hessian(x, at, w, api.Plan{Route: r, Order: api.OrderNatural, Workers: 16})
		}
		engine.Batch(x, [][]api.Rat{at, nil, at, at}, api.Plan{Mode: api.ModeDense, Workers: 16})
		after := runtime.NumGoroutine()
		for tries := 0; after > before && tries < 2000; tries++ {
			time.Sleep(time.Millisecond)
			after = runtime.NumGoroutine()
		}
		if after > before {
			t.Fatalf("%d goroutines, ahead of the calls %d", after, before)
		}
	}
}

// P17.10, DOC.md's P2: calls at the same time over the same lists answer as one by one: nothing is raced for.
func TestSideBySide(t *testing.T) {
	t.Parallel()
	d := dice(21)
	for range 10 {
		x := d.tape(14)
		points := d.points(x, 6)
		w := d.point(len(x.Outs))
		first, second := d.jacobianPlans(x), d.hessianPlans(x)
		texts := func() string {
			s := ""
			for _, plan := range first {
				l, _ := engine.Batch(x, points, plan)
				s += batchText(l)
			}
			for _, plan := range second {
				s += answerText(engine.Hessian(x, points[0], w, plan))
			}
			return s
		}
		want := texts()
		got := make([]string, 8)
		var all sync.WaitGroup
		for i := range got {
			all.Go(func() { got[i] = texts() })
		}
		all.Wait()
		for _, s := range got {
			if s != want {
				t.Errorf("side by side: %s, want %s", short(s), short(want))
			}
		}
	}
}
