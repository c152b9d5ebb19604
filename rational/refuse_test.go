package rational_test

import (
	"testing"

	"slope/api"
	"slope/rational"
)

// P2.1 to P2.10: ErrRat comes ahead of all that is wrong beside a number that may not be.
func TestErrRatComesFirst(t *testing.T) {
	zero, one := num("0"), num("1")
	for _, w := range wrong() {
		for _, c := range pairCalls() {
			for _, x := range []api.Rat{zero, one, w} {
				r, e := c.call(w, x)
				wantErr(t, c.name, r, e, api.ErrRat)
				r, e = c.call(x, w)
				wantErr(t, c.name, r, e, api.ErrRat)
			}
		}
		for _, f := range []func(api.Rat) (api.Rat, api.Errno){rational.Neg, rational.Abs, rational.Inv, rational.Floor, rational.Ceil, rational.Round} {
			r, e := f(w)
			wantErr(t, "a call of one number", r, e, api.ErrRat)
		}
		for _, n := range []int{0, 1, -1, 1025, -1025} {
			r, e := rational.Pow(w, n)
			wantErr(t, "Pow", r, e, api.ErrRat)
			r, e = rational.Near(w, n)
			wantErr(t, "Near", r, e, api.ErrRat)
			l, all, e := rational.Terms(w, n)
			if len(l) != 0 || all || e != api.ErrRat {
				t.Errorf("Terms: %d terms, %v, error %d", len(l), all, e)
			}
			if s, e := rational.Decimal(w, n); s != "" || e != api.ErrRat {
				t.Errorf("Decimal: %q, error %d", s, e)
			}
		}
		if s, e := rational.Print(w); s != "" || e != api.ErrRat {
			t.Errorf("Print: %q, error %d", s, e)
		}
		if b, e := rational.Float(w); b != 0 || e != api.ErrRat {
			t.Errorf("Float: %x, error %d", b, e)
		}
		for _, x := range []api.Rat{zero, one, w} {
			q, left, e := rational.Divide(w, x)
			wantErr(t, "Divide", q, e, api.ErrRat)
			wantErr(t, "Divide", left, e, api.ErrRat)
			q, left, e = rational.Divide(x, w)
			wantErr(t, "Divide", q, e, api.ErrRat)
			wantErr(t, "Divide", left, e, api.ErrRat)
			r, e := rational.Between(w, x)
			wantErr(t, "Between", r, e, api.ErrRat)
			r, e = rational.Between(x, w)
			wantErr(t, "Between", r, e, api.ErrRat)
		}
	}
}

// P2.5, P2.9: the same of numbers in lists, at each place, ahead of sums that are too large and of lengths.
func TestErrRatInLists(t *testing.T) {
	most := wholeOf(top())
	for _, w := range wrong() {
		for i := range 4 {
			l := []api.Rat{most, most, most, most}
			l[i] = w
			r, e := rational.Sum(l...)
			wantErr(t, "Sum", r, e, api.ErrRat)
			r, e = rational.Product(l...)
			wantErr(t, "Product", r, e, api.ErrRat)
			for _, m := range [][]api.Rat{nil, {most}, {most, most, most, most}, l} {
				r, e = rational.Dot(l, m)
				wantErr(t, "Dot", r, e, api.ErrRat)
				r, e = rational.Dot(m, l)
				wantErr(t, "Dot", r, e, api.ErrRat)
			}
			l[3-i] = num("-1/2")
			l[i] = w
			r, e = rational.FromTerms(l)
			wantErr(t, "FromTerms", r, e, api.ErrRat)
		}
		r, e := rational.FromTerms(append(make([]api.Rat, 0, 1100), append(small(), w)...))
		wantErr(t, "FromTerms of numbers that are no terms", r, e, api.ErrRat)
	}
	many := make([]api.Rat, 1200)
	for i := range many {
		many[i] = num("1")
	}
	many[1100] = api.Rat{}
	r, e := rational.FromTerms(many)
	wantErr(t, "FromTerms of too many", r, e, api.ErrRat)
}

// P2.4, P2.10: the order of what stands behind ErrRat.
func TestOrderOfErrors(t *testing.T) {
	r, e := rational.Pow(num("0"), -1025)
	wantErr(t, "Pow out of range of 0", r, e, api.ErrArg)
	r, e = rational.Pow(wholeOf(top()), 1025)
	wantErr(t, "Pow out of range, too large", r, e, api.ErrArg)
	r, e = rational.Div(wholeOf(top()), num("0"))
	wantErr(t, "Div by 0", r, e, api.ErrZero)
	q, left, e := rational.Divide(wholeOf(top()), num("0"))
	wantErr(t, "Divide by 0", q, e, api.ErrZero)
	wantErr(t, "Divide by 0", left, e, api.ErrZero)
}
