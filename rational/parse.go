package rational

import (
	"strings"

	"slope/api"
	"slope/natural"
)

// Kinds of a text's bytes; the text's end is one too.
const (
	byteOther = iota
	byteDigit
	byteMinus
	bytePlus
	byteSlash
	bytePoint
	byteLetter
	byteEnd
	byteKinds
)

// Stages of reading: what the last byte was a part of.
const (
	stageNone = iota // nothing: the byte can't stand there
	stageStart
	stageSign
	stageDigits
	stageSlash
	stageUnder // digits behind the slash
	stagePoint
	stagePlaces // digits behind the point
	stageLetter
	stagePowerSign
	stagePower // digits of the power of ten
	stageDone
	stages
)

// behind tells the stage to which a byte of each kind leads; where it names none the byte can't stand.
var behind = [stages][byteKinds]uint8{
	stageStart:     {byteDigit: stageDigits, byteMinus: stageSign},
	stageSign:      {byteDigit: stageDigits},
	stageDigits:    {byteDigit: stageDigits, byteSlash: stageSlash, bytePoint: stagePoint, byteLetter: stageLetter, byteEnd: stageDone},
	stageSlash:     {byteDigit: stageUnder},
	stageUnder:     {byteDigit: stageUnder, byteEnd: stageDone},
	stagePoint:     {byteDigit: stagePlaces},
	stagePlaces:    {byteDigit: stagePlaces, byteLetter: stageLetter, byteEnd: stageDone},
	stageLetter:    {byteDigit: stagePower, byteMinus: stagePowerSign, bytePlus: stagePowerSign},
	stagePowerSign: {byteDigit: stagePower},
	stagePower:     {byteDigit: stagePower, byteEnd: stageDone},
}

// kindAt is the kind of byte i.
func kindAt(s string, i int) int {
	if i == len(s) {
		return byteEnd
	}
	switch s[i] {
	case '0', '1', '2', '3', '4', '5', '6', '7', '8', '9':
		return byteDigit
	case '-':
		return byteMinus
	case '+':
		return bytePlus
	case '/':
		return byteSlash
	case '.':
		return bytePoint
	case 'e', 'E':
		return byteLetter
	}
	return byteOther
}

// parts are a number's text taken apart; slash and letter are the places of the / and of the e, 0 without one.
type parts struct {
	neg    bool
	digits string
	slash  int
	under  string
	places string
	letter int
	power  string // with its sign
}

// takeApart goes over the text by the table: its parts, or the place of the first byte that can't stand there.
func takeApart(s string) (parts, int, bool) {
	point, end := 0, len(s)
	var p parts
	stage := uint8(stageStart)
	for i := range len(s) + 1 {
		stage = behind[stage][kindAt(s, i)]
		switch stage {
		case stageNone:
			return parts{}, i, false
		case stageSign:
			p.neg = true
		case stageSlash:
			p.slash = i
		case stagePoint:
			point = i
		case stageLetter:
			p.letter = i
		}
	}
	if p.letter > 0 {
		p.power = s[p.letter+1:]
		end = p.letter
	}
	if p.slash > 0 {
		p.under = s[p.slash+1:]
		end = p.slash
	}
	if point > 0 {
		p.places = s[point+1 : end]
		end = point
	}
	p.digits = strings.TrimPrefix(s[:end], "-")
	return p, 0, true
}

// Parse reads a number, and tells the place of the first fault.
func Parse(s string) (api.Rat, int, api.Errno) {
	if len(s) > api.MaxText {
		return api.Rat{}, api.MaxText, api.ErrText
	}
	p, at, ok := takeApart(s)
	if !ok {
		return api.Rat{}, at, api.ErrDigit
	}
	if p.slash > 0 && strings.Trim(p.under, "0") == "" {
		return api.Rat{}, p.slash, api.ErrZero
	}
	power, ok := readPower(p.power)
	if !ok {
		return api.Rat{}, p.letter, api.ErrArg
	}
	num, den, e := p.written(power)
	if e != api.OK {
		return api.Rat{}, 0, e
	}
	return lowest(p.neg, num, den), 0, api.OK
}

// readPower reads the power of ten, 0 of no text; false: it is above MaxExponent.
func readPower(s string) (int, bool) {
	neg := strings.HasPrefix(s, "-")
	n := 0
	for _, c := range []byte(strings.TrimLeft(s, "+-")) {
		n = ten*n + int(c-'0')
		if n > api.MaxExponent {
			return 0, false
		}
	}
	if neg {
		n = -n
	}
	return n, true
}

// written is Num and Den as they stand there, ahead of lowering.
func (p parts) written(power int) (api.Nat, api.Nat, api.Errno) {
	num, _, e := natural.Parse(p.digits+p.places, ten)
	if e != api.OK {
		return nil, nil, e
	}
	if p.slash > 0 {
		den, _, e := natural.Parse(p.under, ten)
		return num, den, e
	}
	power -= len(p.places)
	if power < 0 {
		den, e := tenTo(-power)
		return num, den, e
	}
	num, e = natural.Mul(num, sure(tenTo(power)))
	return num, one(), e
}
