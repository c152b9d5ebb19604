package rational

import (
	"slope/api"
	"slope/natural"
)

// greatestDen is the Den up to which Near looks for a number.
const greatestDen = 1 << 40

// fraction is a number from 0 to 1, in lowest terms, in words.
type fraction struct{ num, den uint64 }

func (f fraction) number() api.Rat {
	return api.Rat{Num: natural.From(f.num), Den: natural.From(f.den)}
}

// Near gives the nearest number whose Den is at most most.
func Near(r api.Rat, most int) (api.Rat, api.Errno) {
	if !May(r) {
		return api.Rat{}, api.ErrRat
	}
	if most < 1 || uint64(most) > greatestDen {
		return api.Rat{}, api.ErrArg
	}
	// A whole number more or less changes no distance and no Den: so only what
	// lies above the floor is looked at, and words are enough for the answer.
	q, left := floor(r)
	low, high := neighbours(left, r.Den, uint64(most))
	near := nearer(api.Rat{Num: left, Den: r.Den}, low, high)
	return add(q, near.number())
}

// neighbours are the greatest fraction not above num over den, which is in
// lowest terms and below 1, and the least one not below, of those whose den is
// at most most.
func neighbours(num, den api.Nat, most uint64) (fraction, fraction) {
	// What the terms so far make, and what they make without the last one:
	// the first of these is below the number, then above, by turns.
	last, now := fraction{1, 0}, fraction{0, 1}
	below := true
	for len(num) > 0 {
		term, left, _ := natural.DivMod(den, num)
		n, ok := natural.Uint(term)
		room := (most - last.den) / now.den
		fits := ok && n <= room
		if !fits {
			n = room
		}
		last, now = now, fraction{n*now.num + last.num, n*now.den + last.den}
		below = !below
		if !fits {
			return inOrder(now, last, below)
		}
		den, num = num, left
	}
	return now, now
}

// inOrder is the two fractions, the lower one first; below tells whether that is a.
func inOrder(a, b fraction, below bool) (fraction, fraction) {
	if below {
		return a, b
	}
	return b, a
}

// nearer is that of two fractions around r, or both r itself, which Near answers.
func nearer(r api.Rat, low, high fraction) fraction {
	// These numbers are of a few limbs: nothing is too large.
	middle, _ := add(low.number(), high.number())
	middle, _ = multiply(middle, fraction{1, 2}.number())
	c := compare(r, middle)
	if c > 0 || c == 0 && high.den < low.den {
		return high
	}
	return low
}
