package rational

import (
	"strings"

	"slope/api"
	"slope/natural"
)

const ten = 10

// tenTo is 10 to the power k; ErrBig, if it is too large.
func tenTo(k int) (api.Nat, api.Errno) {
	base := natural.From(ten)
	most := sure(natural.Pow(base, api.MaxPower))
	high, e := natural.Pow(most, k/api.MaxPower)
	if e != api.OK {
		return nil, e
	}
	return natural.Mul(high, sure(natural.Pow(base, k%api.MaxPower)))
}

// digits is a natural's text.
func digits(n api.Nat) string {
	s, _ := natural.Print(n, ten)
	return s
}

// Print gives a number's text.
func Print(r api.Rat) (string, api.Errno) {
	if !May(r) {
		return "", api.ErrRat
	}
	s := digits(r.Num)
	if !isOne(r.Den) {
		s += "/" + digits(r.Den)
	}
	return minus(r.Neg) + s, api.OK
}

// minus is what stands ahead of a number below 0.
func minus(neg bool) string {
	if neg {
		return "-"
	}
	return ""
}

// Decimal gives a number rounded to so many places behind the point.
func Decimal(r api.Rat, places int) (string, api.Errno) {
	if !May(r) {
		return "", api.ErrRat
	}
	if places < 0 || places > api.MaxDigits {
		return "", api.ErrArg
	}
	above, below := roundToPlaces(r, places)
	neg := r.Neg && len(above)+len(below) > 0
	s := minus(neg) + digits(above)
	if places == 0 {
		return s, api.OK
	}
	behind := digits(below)
	return s + "." + strings.Repeat("0", places-len(behind)) + behind, api.OK
}

// roundToPlaces is r's size in two numbers: the one above the point, and the one of so many digits behind it.
func roundToPlaces(r api.Rat, places int) (api.Nat, api.Nat) {
	unit := sure(tenTo(places))
	above, left, _ := natural.DivMod(r.Num, r.Den)
	w, left := product(left, unit).by(r.Den)
	below := sure(w.narrow())
	last := below
	if places == 0 {
		last = above
	}
	if roundsUp(left, r.Den, natural.Bit(last, 0) == 1) {
		below = increment(below)
	}
	if natural.Cmp(below, unit) == 0 {
		return increment(above), nil
	}
	return above, below
}
