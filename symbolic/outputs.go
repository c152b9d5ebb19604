package symbolic

import "slope/api"

// result is the normal forms of an answer's outputs; or a place and an error.
type result struct {
	forms []form
	at    int
	err   api.Errno
}

// letters are a model's inputs as normal forms.
func letters(m api.Model) []form {
	l := make([]form, len(m.Inputs))
	for i, name := range m.Inputs {
		l[i] = monomial{newTerm(whole(1), []factor{{letter(name), 1}})}
	}
	return l
}

// asItIs does nothing to a normal form.
func asItIs(f form) (form, api.Errno) { return f, api.OK }

// outputs are a model's outputs, worked out with these inputs, with something
// done to each of them ahead of the next one.
func outputs(m api.Model, inputs []form, done func(f form) (form, api.Errno)) result {
	w := newWalk(m, inputs)
	var r result
	for i := range m.Outs {
		f, e := w.output(i)
		if e == api.OK {
			f, e = done(f)
		}
		if e != api.OK {
			return result{at: i, err: e}
		}
		r.forms = append(r.forms, f)
	}
	return r
}

// gradient are an output's derivatives by each input.
func gradient(m api.Model, output int) result {
	f, e := newWalk(m, letters(m)).output(output)
	if e != api.OK {
		return result{err: e}
	}
	var r result
	for i, name := range m.Inputs {
		d, e := derived(f, name)
		if e != api.OK {
			return result{at: i, err: e}
		}
		r.forms = append(r.forms, d)
	}
	return r
}
