package shell

import (
	"errors"
	"strconv"

	"slope/api"
)

// refusal is what goes wrong: an error's number, and its place.
type refusal struct {
	number api.Errno
	place  int
}

// Error is what a transcript tells of it.
func (r refusal) Error() string {
	return strconv.Itoa(int(r.number)) + " " + strconv.Itoa(r.place)
}

// refused is the refusal that a call's place and error are, or none.
func refused(place int, e api.Errno) error {
	if e == api.OK {
		return nil
	}
	return refusal{e, place}
}

// lineFault is what goes wrong with a script's line.
type lineFault struct {
	line  int
	cause error
}

func (f lineFault) Error() string { return "line " + strconv.Itoa(f.line) + ": " + f.cause.Error() }

func (f lineFault) Unwrap() error { return f.cause }

// told is the place and the number of what is wrong with a whole script: its place is the line's, where it is a line's.
func told(err error) (int, api.Errno) {
	var r refusal
	errors.As(err, &r)
	var f lineFault
	if errors.As(err, &f) {
		return f.line, r.number
	}
	return r.place, r.number
}
