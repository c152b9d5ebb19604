package symbolic

import "slope/api"

// value is what a name means: a tree among the names of its place, and what it
// came to, once it was worked out.
type value struct {
	body  tree
	names scope
	came  form
}

// scope is what names mean in a function's body, or outside all of them.
type scope map[string]*value

// function is one of a model's.
type function struct {
	params []string
	body   tree
}

// walk works a model out in normal forms, in the order of chapter 6.
type walk struct {
	outs  []tree
	funcs map[string]function
	names scope // inputs and lets
}

// newWalk is a walk over a model that may be, whose inputs are these.
func newWalk(m api.Model, inputs []form) *walk {
	trees := grown(m)
	w := &walk{funcs: map[string]function{}, names: scope{}}
	for _, f := range m.Funcs {
		w.funcs[f.Name] = function{f.Params, trees[f.Body]}
	}
	for i, name := range m.Inputs {
		w.names[name] = &value{came: inputs[i]}
	}
	for _, l := range m.Lets {
		w.names[l.Name] = &value{body: trees[l.Body], names: w.names}
	}
	for _, n := range m.Outs {
		w.outs = append(w.outs, trees[n])
	}
	return w
}

// output is what an output comes to.
func (w *walk) output(i int) (form, api.Errno) { return w.brought(w.outs[i], w.names) }

// meant is what a name comes to: it is worked out where it is named first.
func (w *walk) meant(v *value) (form, api.Errno) {
	if v.came != nil {
		return v.came, api.OK
	}
	came, e := w.brought(v.body, v.names)
	v.came = came
	return came, e
}

// all is what trees come to, one after the other.
func (w *walk) all(l []tree, names scope) ([]form, api.Errno) {
	forms := make([]form, len(l))
	for i, t := range l {
		var e api.Errno
		if forms[i], e = w.brought(t, names); e != api.OK {
			return nil, e
		}
	}
	return forms, api.OK
}

// brought is the normal form that a tree comes to.
func (w *walk) brought(t tree, names scope) (form, api.Errno) {
	kids, e := w.all(t.kids(), names)
	if e != api.OK {
		return nil, e
	}
	switch t := t.(type) {
	case numeral:
		return number{t.value}, api.OK
	case named:
		return w.meant(names[t.name])
	case called:
		f := w.funcs[t.name]
		return w.brought(f.body, f.scope(t.arguments, names))
	case negated:
		return negative(kids[0])
	case pair:
		return reckoned(t.kind, kids[0], kids[1])
	case powered:
		return power(kids[0], t.n)
	case added:
		return sum(kids)
	case multiplied:
		return product(kids)
	}
	return nil, api.ErrModel
}

// scope is what names mean in a function's body when it is called.
func (f function) scope(arguments []tree, around scope) scope {
	s := make(scope, len(arguments))
	for i, name := range f.params {
		s[name] = &value{body: arguments[i], names: around}
	}
	return s
}
