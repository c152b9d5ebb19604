package record

import (
	"slices"

	"slope/api"
)

// scope tells what a name came to; what it means is worked out where it is named first.
type scope[T any] func(name string) T

// walk works a model out, in the chapter's order: in numbers, in nodes of a tape, in trees.
type walk[T any] struct {
	m     api.Model
	funcs map[string]int      // each function's place in the model
	names map[string]func() T // inputs and lets
	build func(x api.Expr, kids []T) (T, api.Errno)
	fault api.Errno // the first that build told; nothing is worked out behind it
}

// newWalk is a walk over a model whose inputs are these.
func newWalk[T any](m api.Model, copies bool, inputs []T, build func(x api.Expr, kids []T) (T, api.Errno)) *walk[T] {
	w := &walk[T]{m: m, funcs: map[string]int{}, names: map[string]func() T{}, build: build}
	for i, f := range m.Funcs {
		w.funcs[f.Name] = i
	}
	for i, name := range m.Inputs {
		w.names[name] = func() T { return inputs[i] }
	}
	for _, l := range m.Lets {
		anew := func() T { return w.node(l.Body, w.global) }
		w.names[l.Name] = anew
		if !copies {
			w.names[l.Name] = once(anew)
		}
	}
	return w
}

// once is a function that works a thing out when it is called first, and keeps it.
func once[T any](work func() T) func() T {
	var kept T
	done := false
	return func() T {
		if !done {
			kept, done = work(), true
		}
		return kept
	}
}

// output is what an output comes to.
func (w *walk[T]) output(n int) (T, api.Errno) {
	z := w.node(n, w.global)
	return z, w.fault
}

// global is the scope outside functions.
func (w *walk[T]) global(name string) T { return w.names[name]() }

// node is what a node comes to.
func (w *walk[T]) node(n int, names scope[T]) T {
	var none T
	if w.fault != api.OK {
		return none
	}
	x := w.m.Nodes[n]
	switch x.Kind {
	case api.ExprName:
		return names(x.Name)
	case api.ExprCall:
		f := w.m.Funcs[w.funcs[x.Name]]
		return w.node(f.Body, w.within(f, x.Kids, names))
	}
	kids := make([]T, len(x.Kids))
	for i, kid := range x.Kids {
		kids[i] = w.node(kid, names)
	}
	if w.fault != api.OK {
		return none
	}
	z, e := w.build(x, kids)
	w.fault = e
	return z
}

// within is the scope of a function's body in a call.
func (w *walk[T]) within(f api.Func, kids []int, around scope[T]) scope[T] {
	known := map[string]T{}
	return func(name string) T {
		z, found := known[name]
		if !found {
			z = w.node(kids[slices.Index(f.Params, name)], around)
			known[name] = z
		}
		return z
	}
}
