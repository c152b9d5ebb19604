package symbolic

import (
	"math/bits"
	"strconv"
	"strings"

	"slope/api"
)

// text is a normal form's text, in new memory.
func text(f form) string { return enclosed(f, "", "") }

// enclosed is a normal form's text with something ahead of it and behind it.
func enclosed(f form, ahead, behind string) string {
	var s strings.Builder
	s.Grow(len(ahead) + most(f) + len(behind))
	s.WriteString(ahead)
	for i, t := range f.terms() {
		if i > 0 {
			s.WriteByte('+')
		}
		s.WriteString(t.head())
		s.WriteString(t.part)
	}
	if c := f.constant(); len(f.terms()) == 0 {
		s.WriteString(printed(c))
	} else if !isZero(c) {
		s.WriteByte('+')
		s.WriteString(printed(c))
	}
	s.WriteString(behind)
	return s.String()
}

// partOf is the factors' part of a term's text.
func partOf(factors []factor) string {
	size := 0
	for _, f := range factors {
		size += len(f.base.word()) + len("*^-1024")
	}
	var s strings.Builder
	s.Grow(size)
	for _, f := range factors {
		s.WriteByte('*')
		s.WriteString(f.base.word())
		if f.power != 1 {
			s.WriteByte('^')
			s.WriteString(strconv.Itoa(f.power))
		}
	}
	return s.String()
}

// fitting is the normal form itself, or ErrText, if its text is too long.
func fitting(f form) (form, api.Errno) {
	if most(f) > api.MaxText && tooLong(f) {
		return nil, api.ErrText
	}
	return f, api.OK
}

// tooLong tells whether a normal form's text has more than MaxText bytes, as that of
// a number never has. No more numbers are printed than fit: all of them may have
// thousands of digits.
func tooLong(f form) bool {
	size := 0
	if c := f.constant(); !isZero(c) {
		size = len(printed(c)) + 1
	}
	for _, t := range f.terms() {
		size += len(t.head()) + len(t.part) + 1
		if length(size) > api.MaxText {
			return true
		}
	}
	return false
}

// most is how many bytes a normal form's text has at most.
func most(f form) int { return length(roomOf(f)) }

// roomOf is how much room a normal form's terms and its constant take together.
func roomOf(f form) int {
	size := constantRoom(f.constant())
	for _, t := range f.terms() {
		size += room(t.c, t.part)
	}
	return size
}

// room is how many bytes a term takes in a sum's text at most, with the + that parts it from its neighbour.
func room(c api.Rat, part string) int { return width(c) + len(part) + 1 }

// constantRoom is how many bytes a constant takes in a sum's text at most, likewise.
func constantRoom(c api.Rat) int {
	if isZero(c) {
		return 0
	}
	return room(c, "")
}

// length is how long a text is whose parts take that room, each with a +: the last
// one has none, and of no parts the text is 0.
func length(room int) int { return max(room-1, 1) }

// width is how many bytes a number's text has at most. A text is made only where
// this is too much: that of a great number takes far longer than a product.
func width(r api.Rat) int {
	n := digits(r.Num)
	if r.Neg {
		n++
	}
	if !isUnit(r.Den) {
		n += 1 + digits(r.Den)
	}
	return n
}

// digits is how many decimal digits a natural has at most; of one limb just how many.
func digits(n api.Nat) int {
	if len(n) == 0 {
		return 1
	}
	top := len(n) - 1
	size := 32*top + bits.Len32(n[top])
	// The logarithm of 2 is a bit less than 0.30103.
	count := size*30103/100000 + 1
	if top == 0 && uint64(n[0]) < tenTo(count-1) {
		count--
	}
	return count
}

// tenTo is a power of 10.
func tenTo(n int) uint64 {
	z := uint64(1)
	for range n {
		z *= 10
	}
	return z
}
