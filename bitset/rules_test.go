package bitset_test

import (
	"testing"

	"slope/api"
	"slope/bitset"
)

// sure is a set of a call that isn't refused.
func sure(s api.Set, err api.Errno) api.Set {
	if err != api.OK {
		panic(err)
	}
	return s
}

// sureTable is a table of a call that isn't refused.
func sureTable(t api.Table, err api.Errno) api.Table {
	if err != api.OK {
		panic(err)
	}
	return t
}

// rule fails if it does not hold.
func rule(t *testing.T, name string, holds bool) {
	t.Helper()
	if !holds {
		t.Errorf("%s doesn't hold", name)
	}
}

// P3.13
func TestRulesOfSets(t *testing.T) {
	for _, size := range []int{0, 1, 63, 64, 65, 200, 4096} {
		or := func(l ...api.Set) api.Set { return sure(bitset.Union(size, l...)) }
		and := func(l ...api.Set) api.Set { return sure(bitset.Inter(size, l...)) }
		rest := func(s api.Set) api.Set { return sure(bitset.Rest(s)) }
		for _, a := range samples(size) {
			rule(t, "idempotent", same(or(a, a), a) && same(and(a, a), a) && same(rest(rest(a)), a))
			for _, b := range samples(size) {
				rule(t, "commutative", same(or(a, b), or(b, a)) && same(and(a, b), and(b, a)))
				rule(t, "Rest turns one into the other", same(rest(or(a, b)), and(rest(a), rest(b))) && same(rest(and(a, b)), or(rest(a), rest(b))))
				rule(t, "Minus is Inter with the Rest", same(sure(bitset.Minus(a, b)), and(a, rest(b))))
				rule(t, "Differ is Union less Inter", same(sure(bitset.Differ(a, b)), sure(bitset.Minus(or(a, b), and(a, b)))))
				rule(t, "Count", bitset.Count(or(a, b))+bitset.Count(and(a, b)) == bitset.Count(a)+bitset.Count(b))
				rule(t, "Subset", bitset.Subset(a, b) == same(and(a, b), a) && bitset.Disjoint(a, b) == (bitset.Count(and(a, b)) == 0))
				rule(t, "Compare is an order", bitset.Compare(a, b) == -bitset.Compare(b, a) && bitset.Equal(a, b) == (bitset.Compare(a, b) == 0))
				for _, c := range samples(size)[4:9] {
					rule(t, "associative", same(or(or(a, b), c), or(a, or(b, c))) && same(or(a, b, c), or(or(a, b), c)))
					rule(t, "associative", same(and(and(a, b), c), and(a, and(b, c))) && same(and(a, b, c), and(and(a, b), c)))
					rule(t, "each goes over the other", same(and(a, or(b, c)), or(and(a, b), and(a, c))) && same(or(a, and(b, c)), and(or(a, b), or(a, c))))
				}
			}
		}
	}
}

// P3.13
func TestSelectAndRankUndoOneAnother(t *testing.T) {
	for _, size := range sizes() {
		for _, s := range samples(size) {
			for i, e := range bitset.Elements(s) {
				rule(t, "Select of Rank", bitset.Select(s, bitset.Rank(s, e)) == e)
				rule(t, "Rank of Select", bitset.Rank(s, bitset.Select(s, i)) == i)
			}
		}
	}
}

// within tells whether each set of a is in b's.
func within(a, b api.Table) bool {
	for i, s := range a.Sets {
		if !bitset.Subset(s, b.Sets[i]) {
			return false
		}
	}
	return len(a.Sets) == len(b.Sets)
}

// P3.13
func TestRulesOfTables(t *testing.T) {
	d := dice(10)
	for _, shape := range shapes() {
		size, n := shape[0], shape[1]
		for _, chance := range []int{1, 2, 10, 70} {
			a, b := d.table(size, n, chance), d.table(d.next(90), size, chance)
			turn := func(t api.Table) api.Table { return sureTable(bitset.Turn(t)) }
			rule(t, "Turn of Turn", sameTable(turn(turn(a)), a))
			rule(t, "Turn of a Product", sameTable(turn(sureTable(bitset.Product(a, b))), sureTable(bitset.Product(turn(b), turn(a)))))
			c := d.table(size, size, chance)
			both := sureTable(bitset.Both(c))
			rule(t, "Both is its own Turn", sameTable(turn(both), both) && within(c, both))
			closed := sureTable(bitset.Closure(c))
			rule(t, "Closure holds t", within(c, closed))
			rule(t, "Product of t and its Closure is in it", within(sureTable(bitset.Product(c, closed)), closed))
			rule(t, "Closure of Closure", sameTable(sureTable(bitset.Closure(closed)), closed))
		}
	}
}
