package order

import (
	"cmp"
	"slices"

	"slope/api"
)

// maker makes an order of a graph's vertices; a script is an order already, and looked at for one kind alone.
type maker func(g api.Pattern, script []int) []int

// makers are the kinds' functions, each at its kind's number.
func makers() [api.OrderScript + 1]maker {
	return [api.OrderScript + 1]maker{
		api.OrderNatural:   byNumber,
		api.OrderLargest:   byDegree,
		api.OrderSmallest:  smallestLast,
		api.OrderIncidence: byIncidence,
		api.OrderScript:    asTold,
	}
}

// byNumber is OrderNatural.
func byNumber(g api.Pattern, _ []int) []int {
	l := make([]int, g.Rows)
	for v := range l {
		l[v] = v
	}
	return l
}

// byDegree is OrderLargest.
func byDegree(g api.Pattern, _ []int) []int {
	degree := degrees(g)
	l := byNumber(g, nil)
	// Stable: of one degree the lower number stays ahead.
	slices.SortStableFunc(l, func(u, v int) int { return cmp.Compare(degree[v], degree[u]) })
	return l
}

// smallestLast is OrderSmallest.
func smallestLast(g api.Pattern, _ []int) []int {
	l, _ := peel(g)
	slices.Reverse(l)
	return l
}

// byIncidence is OrderIncidence: its rule for ties is OrderLargest.
func byIncidence(g api.Pattern, _ []int) []int {
	left := fill(byDegree(g, nil), make([]int, g.Rows))
	var l []int
	for range g.Rows {
		v := left.take(left.highest())
		l = append(l, v)
		for _, u := range neighbours(g, v) {
			left.shift(u, 1)
		}
	}
	return l
}

// asTold is OrderScript.
func asTold(_ api.Pattern, script []int) []int { return slices.Clone(script) }

// peel takes the vertices one by one, always one that has the fewest neighbours among those left: the vertices as they were taken, and how many neighbours each of these had then.
func peel(g api.Pattern) ([]int, []int) {
	falling := byNumber(g, nil)
	slices.Reverse(falling)
	left := fill(falling, degrees(g))
	var l, counts []int
	for range g.Rows {
		count := left.lowest()
		v := left.take(count)
		l, counts = append(l, v), append(counts, count)
		for _, u := range neighbours(g, v) {
			left.shift(u, -1)
		}
	}
	return l, counts
}

// cores are each vertex's: when the least count first comes to k, each of those left has k neighbours among them, and none that was taken lies in any such set.
func cores(g api.Pattern) []int {
	l := make([]int, g.Rows)
	most := 0
	vertices, counts := peel(g)
	for i, v := range vertices {
		most = max(most, counts[i])
		l[v] = most
	}
	return l
}
