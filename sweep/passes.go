package sweep

import "slope/api"

// firsts are each node's derivatives by its places.
func (r run) firsts() [][]api.Rat {
	var z [][]api.Rat
	for _, n := range r.nodes {
		z = append(z, n.first(those(r.values, n.places)))
	}
	return z
}

// seconds are each node's second derivatives by its places.
func (r run) seconds() [][][]api.Rat {
	var z [][][]api.Rat
	for _, n := range r.nodes {
		z = append(z, n.second(those(r.values, n.places)))
	}
	return z
}

// tangents are the nodes' derivatives along a direction.
func (r run) tangents(first [][]api.Rat, along []api.Rat) []api.Rat {
	var z []api.Rat
	for i := range len(r.nodes) {
		if op := r.live.Ops[i]; op.Kind == api.OpInput {
			z = append(z, along[op.A])
			continue
		}
		z = append(z, dot(first[i], those(z, r.nodes[i].places)))
	}
	return z
}

// turns are how each node's derivatives by its places move along a direction.
func (r run) turns(second [][][]api.Rat, tangents []api.Rat) [][]api.Rat {
	var z [][]api.Rat
	for i, n := range r.nodes {
		l := zeros(len(n.places))
		for p, row := range second[i] {
			l[p] = dot(row, those(tangents, n.places))
		}
		z = append(z, l)
	}
	return z
}

// adjoints are the derivatives of the outputs' sum with weights by the nodes.
func (r run) adjoints(first [][]api.Rat, w []api.Rat) []api.Rat {
	z := zeros(len(r.nodes))
	for i, n := range r.live.Outs {
		z[n] = sum(z[n], w[i])
	}
	r.down(z, func(i, p int) api.Rat {
		return dot(first[i][p:p+1], z[i:i+1])
	})
	return z
}

// adjointTangents are how the adjoints move along a direction; the weights don't.
func (r run) adjointTangents(first [][]api.Rat, adjoints []api.Rat, turns [][]api.Rat) []api.Rat {
	z := zeros(len(r.nodes))
	r.down(z, func(i, p int) api.Rat {
		// The sum of both is a second derivative; alone, each may have more bits than one.
		return dot([]api.Rat{first[i][p], adjoints[i]}, []api.Rat{z[i], turns[i][p]})
	})
	return z
}

// down goes over the nodes from the last one, and adds at the node at each place
// the part that it gets from there. When a node's turn comes all that it stands
// in are through: its own sum is whole.
func (r run) down(sums []api.Rat, part func(i, p int) api.Rat) {
	for i := len(r.nodes) - 1; i >= 0; i-- {
		for p, n := range r.nodes[i].places {
			if d := part(i, p); !isZero(d) {
				sums[n] = sum(sums[n], d)
			}
		}
	}
}
