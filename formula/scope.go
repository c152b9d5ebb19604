package formula

import "slope/api"

// Kinds of what a name can mean.
const (
	meansInput = iota + 1
	meansFunc
	meansLet
	meansParam
)

// meaning is what a name stands for.
type meaning struct {
	kind   int
	index  int // its number among those of its kind
	params int // of a function: how many it has
}

// names are what names mean.
type names map[string]meaning

// add makes a name: ErrName, if it is none; ErrTwice, if it is there already.
func (l names) add(name string, m meaning) api.Errno {
	if !isName(name) {
		return api.ErrName
	}
	if _, ok := l[name]; ok {
		return api.ErrTwice
	}
	l[name] = m
	return api.OK
}

// scope tells what names mean in one body or output.
type scope struct {
	made   names // inputs, functions and lets
	inFunc bool
	params names // of the function whose body it is
	funcs  int   // how many functions are ahead of it
	lets   int   // how many lets are
}

// value is what a name means there; false: nothing.
func (s scope) value(name string) (meaning, bool) {
	if s.inFunc {
		m, ok := s.params[name]
		return m, ok
	}
	m, ok := s.made[name]
	return m, ok && (m.kind == meansInput || m.kind == meansLet && m.index < s.lets)
}

// function is what the name of a call means there; false: nothing.
func (s scope) function(name string) (meaning, bool) {
	m, ok := s.made[name]
	return m, ok && m.kind == meansFunc && m.index < s.funcs
}

// scopes are the names of a whole model.
type scopes struct {
	made   names
	params []names // function by function
	lets   int
}

// of is the scope of a body, numbered as bodies are: function by function, let by let, output by output.
func (s scopes) of(body int) scope {
	funcs := len(s.params)
	if body < funcs {
		return scope{made: s.made, inFunc: true, params: s.params[body], funcs: body}
	}
	return scope{made: s.made, funcs: funcs, lets: min(body-funcs, s.lets)}
}
