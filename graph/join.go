package graph

import (
	"arbor/api"
	"arbor/weighed"
)

// growth is a tree that grows from node 0 on, and the edges that it has touched.
type growth struct {
	edges   []api.Edge
	reached [api.MaxNodes]bool
	count   int
	touched weighed.Heap[api.Edge]
}

// joinAll lets a tree grow over the lightest edge that it touches, again and again, and tells whether it reaches all nodes. The edges must be between nodes.
func joinAll(nodes int, edges []api.Edge) bool {
	g := growth{edges: edges}
	g.reach(0)
	for {
		e, ok := g.touched.Take()
		if !ok {
			return g.count == nodes
		}
		g.reach(e.A)
		g.reach(e.B)
	}
}

// reach takes in a node with its edges, once: so the tree stops growing.
func (g *growth) reach(node int) {
	if g.reached[node] {
		return
	}
	g.reached[node] = true
	g.count++
	for _, e := range g.edges {
		if e.A == node || e.B == node {
			g.touched.Add(e, e.Weight)
		}
	}
}
