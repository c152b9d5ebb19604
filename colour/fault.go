package colour

import "slices"

// pairFault is the least two neighbours of one colour, the lower ahead.
func pairFault(t task, colours []int) []int {
	for u := range t.g.Rows {
		for _, v := range row(t.g, u) {
			if u < v && colours[u] == colours[v] {
				return []int{u, v}
			}
		}
	}
	return nil
}

// columnFault is the least two columns of one colour that meet, and the least row in which they do.
func columnFault(t task, colours []int) []int {
	return withLine(pairFault(t, colours), rowsOf(t.p))
}

// rowFault is the least two rows of one colour that meet, and the least column in which they do.
func rowFault(t task, colours []int) []int {
	return withLine(pairFault(t, colours), columnsOf(t.p))
}

// withLine is a pair of things that stand together in some line, and the first such line; nothing, if there is no pair.
func withLine(pair []int, lines [][]int) []int {
	if len(pair) == 0 {
		return nil
	}
	first := slices.IndexFunc(lines, func(l []int) bool {
		return slices.Contains(l, pair[0]) && slices.Contains(l, pair[1])
	})
	return append(pair, first)
}

// starFault is the least two neighbours of one colour, or else the least way of four vertices in two colours.
func starFault(t task, colours []int) []int {
	if l := pairFault(t, colours); len(l) > 0 {
		return l
	}
	for a := range t.g.Rows {
		for _, b := range row(t.g, a) {
			for _, c := range row(t.g, b) {
				if c == a || colours[c] != colours[a] {
					continue
				}
				// Neighbours differ by now, so what has b's colour is neither a nor c.
				d := slices.IndexFunc(row(t.g, c), func(d int) bool { return d > a && d != b && colours[d] == colours[b] })
				if d >= 0 {
					return []int{a, b, c, row(t.g, c)[d]}
				}
			}
		}
	}
	return nil
}

// circleFault is the least two neighbours of one colour, or else the least two colours in which there is a circle.
func circleFault(t task, colours []int) []int {
	if l := pairFault(t, colours); len(l) > 0 {
		return l
	}
	var sets forest
	var least []int
	for _, ends := range sets.grow(t.g, ranks(colours)) {
		l := []int{colours[ends[0]], colours[ends[1]]}
		slices.Sort(l)
		if len(least) == 0 || slices.Compare(l, least) < 0 {
			least = l
		}
	}
	return least
}

// ranks are the colours renamed to 0, 1, 2, .. without gaps: few enough for a forest.
func ranks(colours []int) []int {
	rising := slices.Compact(slices.Sorted(slices.Values(colours)))
	l := make([]int, len(colours))
	for v, k := range colours {
		l[v], _ = slices.BinarySearch(rising, k)
	}
	return l
}
