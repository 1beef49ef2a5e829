// Package graph tells whether edges are a graph that holds together.
package graph

import (
	"slices"

	"arbor/api"
)

// Check answers the first fault, in the document's order, of all edges together: so each fault is looked for in every edge before the next one is.
func Check(nodes int, edges []api.Edge) api.Errno {
	strays := func(e api.Edge) bool {
		return !isNode(e.A, nodes) || !isNode(e.B, nodes) || e.A == e.B
	}
	switch {
	case nodes < 1 || nodes > api.MaxNodes || len(edges) > api.MaxEdges:
		return api.ErrSize
	case slices.ContainsFunc(edges, strays):
		return api.ErrEdge
	case slices.ContainsFunc(edges, weighsWrong) || anyTwo(edges, weighAlike):
		return api.ErrWeight
	case anyTwo(edges, joinAlike):
		return api.ErrTwice
	case !joinAll(nodes, edges):
		return api.ErrApart
	}
	return api.OK
}

func isNode(k, nodes int) bool { return 0 <= k && k < nodes }

func weighsWrong(e api.Edge) bool { return e.Weight < 1 || e.Weight > api.MaxWeight }

func weighAlike(e, f api.Edge) bool { return e.Weight == f.Weight }

// joinAlike does not ask which of its nodes an edge names first: edges have no direction.
func joinAlike(e, f api.Edge) bool {
	return e.A == f.A && e.B == f.B || e.A == f.B && e.B == f.A
}

// anyTwo tells whether some two of the edges are alike.
func anyTwo(edges []api.Edge, alike func(e, f api.Edge) bool) bool {
	for i, e := range edges {
		for _, f := range edges[:i] {
			if alike(e, f) {
				return true
			}
		}
	}
	return false
}
