package record

import "slope/api"

// slot is a parameter of a function.
type slot struct {
	function, param string
}

// tally counts how many of a model's nodes are worked out, without doing so.
type tally struct {
	m      api.Model
	copies bool
	funcs  map[string]int // each function's place in the model
	lets   map[string]int // each let's
	works  map[string]int // of functions and lets that were counted: the work of their bodies
	named  map[slot]int   // how often the work of a function comes to a parameter
}

// outside stands in the place of a function's name where there is none.
const outside = ""

// work is a model's work, or MaxUnroll + 1, if it is more than MaxUnroll.
func work(m api.Model, copies bool) int {
	c := tally{m, copies, map[string]int{}, map[string]int{}, map[string]int{}, map[slot]int{}}
	for i, l := range m.Lets {
		c.lets[l.Name] = i
	}
	// A function calls only such as stand ahead of it: those are counted when it is.
	for i, f := range m.Funcs {
		c.funcs[f.Name] = i
		c.works[f.Name] = c.count(f.Body, f.Name)
	}
	total := 0
	for _, n := range m.Outs {
		total = enough(total + c.count(n, outside))
	}
	return total
}

// enough is a count, as far as it is told apart.
func enough(n int) int { return min(n, api.MaxUnroll+1) }

// count is the work of a node within a function or outside.
//
// No node is gone into twice: what a function's or a let's body comes to is
// kept, so that the work may be far greater than the counting.
func (c *tally) count(n int, within string) int {
	x := c.m.Nodes[n]
	total := 1
	switch x.Kind {
	case api.ExprName:
		total += c.countName(x.Name, within)
	case api.ExprCall:
		total += c.works[x.Name]
		for i, p := range c.m.Funcs[c.funcs[x.Name]].Params {
			if c.named[slot{x.Name, p}] > 0 {
				total += c.count(x.Kids[i], within)
			}
		}
	default:
		for _, kid := range x.Kids {
			total += c.count(kid, within)
		}
	}
	return enough(total)
}

// countName is the work that is done where a name stands, beside the name's own.
func (c *tally) countName(name, within string) int {
	if within != outside {
		// A parameter's kid is counted once, at the call.
		c.named[slot{within, name}]++
		return 0
	}
	i, isLet := c.lets[name]
	if !isLet {
		return 0
	}
	known, again := c.works[name]
	if !again {
		c.works[name] = c.count(c.m.Lets[i].Body, outside)
		return c.works[name]
	}
	if c.copies {
		return known
	}
	return 0
}
