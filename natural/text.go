package natural

import "slope/api"

const (
	leastBase    = 2
	greatestBase = 36
	digits       = "0123456789abcdefghijklmnopqrstuvwxyz"
)

// shortText is the length up to which digits are taken off one limb's worth at a time.
const shortText = 24

// Bytes are a natural's bytes, the highest first.
func Bytes(n api.Nat) ([]byte, api.Errno) {
	if !May(n) {
		return nil, api.ErrNat
	}
	z := make([]byte, (bitLen(n)+7)/8)
	for i := range len(z) {
		z[len(z)-1-i] = byte(n[i/4] >> (8 * (i % 4)))
	}
	return z, api.OK
}

// FromBytes is the natural of these bytes.
func FromBytes(b []byte) (api.Nat, api.Errno) {
	for len(b) > 0 && b[0] == 0 {
		b = b[1:]
	}
	if len(b) > maxBits/8 {
		return nil, api.ErrBig
	}
	z := make([]uint32, (len(b)+3)/4)
	for i := range len(b) {
		z[i/4] |= uint32(b[len(b)-1-i]) << (8 * (i % 4))
	}
	return trim(z), api.OK
}

// isBase tells whether numbers can be written in that base.
func isBase(base int) bool { return leastBase <= base && base <= greatestBase }

// chunk is how many digits of that base fit a limb, and the base to that power.
func chunk(base int) (int, uint32) {
	count, worth := 1, uint64(base)
	for worth*uint64(base)>>limbBits == 0 {
		count++
		worth *= uint64(base)
	}
	return count, uint32(worth)
}

// Print is a natural's text.
func Print(n api.Nat, base int) (string, api.Errno) {
	if !May(n) {
		return "", api.ErrNat
	}
	if !isBase(base) {
		return "", api.ErrBase
	}
	w := newWriter(n, base)
	text := make([]byte, w.count<<len(w.powers))
	w.write(text, n, len(w.powers))
	at := 0
	for at < len(text)-1 && text[at] == '0' {
		at++
	}
	return string(text[at:]), api.OK
}

// writer writes numbers in one base: powers[i] is the base to the power count * 2^i, and worth to the power count.
type writer struct {
	base   int
	count  int
	worth  uint32
	powers [][]uint32
}

// newWriter has the powers by which n is cut in halves, the greatest one's square above n.
func newWriter(n []uint32, base int) writer {
	w := writer{base: base}
	w.count, w.worth = chunk(base)
	p := []uint32{w.worth}
	for compare(p, n) <= 0 {
		w.powers = append(w.powers, p)
		if 2*len(p)-1 > len(n) {
			break
		}
		p = multiply(p, p)
	}
	return w
}

// write fills the text, count * 2^level bytes, with n's digits, zeros ahead of them; n has no more digits than that.
func (w writer) write(text []byte, n []uint32, level int) {
	if len(n) <= shortText {
		w.writeShort(text, clone(n))
		return
	}
	half := len(text) / 2
	q, r := divide(n, w.powers[level-1])
	w.write(text[:half:half], q, level-1)
	w.write(text[half:], r, level-1)
}

// writeShort takes the digits off n, which is changed, from the last one on.
func (w writer) writeShort(text []byte, n []uint32) {
	for end := len(text); end > 0; end -= w.count {
		rest := divideLimb(n, w.worth)
		n = trim(n)
		for i := range w.count {
			text[end-1-i] = digits[rest%uint32(w.base)]
			rest /= uint32(w.base)
		}
	}
}

// digit is what a byte is worth as a digit; of one that is none, more than any base.
func digit(c byte) int {
	switch {
	case '0' <= c && c <= '9':
		return int(c - '0')
	case 'a' <= c && c <= 'z':
		return int(c-'a') + 10
	case 'A' <= c && c <= 'Z':
		return int(c-'A') + 10
	}
	return greatestBase
}

// Parse reads a natural's text: the natural, the place, the error.
func Parse(s string, base int) (api.Nat, int, api.Errno) {
	if len(s) > api.MaxText {
		return nil, api.MaxText, api.ErrText
	}
	if !isBase(base) {
		return nil, 0, api.ErrBase
	}
	if at, ok := allDigits(s, base); !ok {
		return nil, at, api.ErrDigit
	}
	n, e := read(s, base)
	return n, 0, e
}

// allDigits tells the place of the first byte that is no digit of the base, or of the missing one; true: there is none.
func allDigits(s string, base int) (int, bool) {
	for i := range len(s) {
		if digit(s[i]) >= base {
			return i, false
		}
	}
	return 0, len(s) > 0
}

// read is the number that digits make.
func read(s string, base int) (api.Nat, api.Errno) {
	var z []uint32
	count, worth := chunk(base)
	for len(s) > 0 {
		// The first piece is the one that may be short, so all others are worth the same.
		size := (len(s)-1)%count + 1
		var v uint32
		for i := range size {
			v = v*uint32(base) + uint32(digit(s[i]))
		}
		s = s[size:]
		if z = appendLimb(z, worth, v); len(z) > api.MaxLimbs {
			return nil, api.ErrBig
		}
	}
	return z, api.OK
}

// appendLimb is z times worth plus v, in z's own room.
func appendLimb(z []uint32, worth, v uint32) []uint32 {
	carry := uint64(v)
	for i := range len(z) {
		carry += uint64(z[i]) * uint64(worth)
		z[i] = uint32(carry)
		carry >>= limbBits
	}
	if carry != 0 {
		z = append(z, uint32(carry))
	}
	return z
}
