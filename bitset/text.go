package bitset

import (
	"strconv"

	"slope/api"
)

// Print gives a set's text.
func Print(s api.Set) (string, api.Errno) {
	if !May(s) {
		return "", api.ErrSet
	}
	b := append(strconv.AppendInt(nil, int64(s.Size), 10), ':')
	ahead := "" // what stands ahead of a run: nothing, of the first one
	for e := range rising(s.Words) {
		if !Has(s, e-1) {
			b = strconv.AppendInt(append(b, ahead...), int64(e), 10)
			ahead = ","
		} else if !Has(s, e+1) {
			b = strconv.AppendInt(append(b, '-'), int64(e), 10)
		}
	}
	return string(b), api.OK
}

// numeral is a number of a text: the place of its first byte, and whether it is a run's last.
type numeral struct {
	value int
	at    int
	last  bool
}

// reader goes over a text from the left; where it gives up, it stands at the byte that can't be there.
type reader struct {
	text string
	at   int
}

// ended tells whether nothing is left.
func (r *reader) ended() bool { return r.at == len(r.text) }

// skip goes past a byte, if it is the next one.
func (r *reader) skip(c byte) bool {
	if r.ended() || r.text[r.at] != c {
		return false
	}
	r.at++
	return true
}

// number reads a number. All that are above MaxSet are the same to a reader of sets, so none grows too large.
func (r *reader) number() (numeral, bool) {
	n := numeral{at: r.at}
	if r.skip('0') {
		return n, true
	}
	for !r.ended() && '0' <= r.text[r.at] && r.text[r.at] <= '9' {
		n.value = min(10*n.value+int(r.text[r.at]-'0'), api.MaxSet+1)
		r.at++
	}
	return n, r.at > n.at
}

// numerals reads a whole text: its size, and the numbers of its runs.
func (r *reader) numerals() ([]numeral, bool) {
	size, ok := r.number()
	if !ok || !r.skip(':') {
		return nil, false
	}
	list := []numeral{size}
	if r.ended() {
		return list, true
	}
	for {
		first, ok := r.number()
		if !ok {
			return nil, false
		}
		list = append(list, first)
		if r.skip('-') {
			last, ok := r.number()
			if !ok {
				return nil, false
			}
			last.last = true
			list = append(list, last)
		}
		if !r.skip(',') {
			return list, r.ended()
		}
	}
}

// Parse reads a set's text: the set, the place of what is wrong, the error.
func Parse(text string) (api.Set, int, api.Errno) {
	if len(text) > api.MaxText {
		return api.Set{}, api.MaxText, api.ErrText
	}
	r := reader{text: text}
	list, ok := r.numerals()
	if !ok {
		return api.Set{}, r.at, api.ErrDigit
	}
	if !fits(list[0].value) {
		return api.Set{}, 0, api.ErrUniverse
	}
	return gather(list[0].value, list[1:])
}

// gather makes the set of a text's runs, if they rise and don't touch.
func gather(size int, list []numeral) (api.Set, int, api.Errno) {
	z := blank(size)
	before := -2 // a first run may begin at 0
	for _, n := range list {
		if n.value >= size {
			return api.Set{}, n.at, api.ErrElement
		}
		next := before + 1 // the run goes on there, and no other one may begin
		if n.last && n.value < next || !n.last && n.value <= next {
			return api.Set{}, n.at, api.ErrArg
		}
		if !n.last {
			next = n.value
		}
		for e := next; e <= n.value; e++ {
			put(z, e)
		}
		before = n.value
	}
	return z, 0, api.OK
}
