package graph

import (
	"container/heap"

	"arbor/api"
)

// byWeight is a heap of edges (container/heap), the lightest one on top.
type byWeight []api.Edge

func (h byWeight) Len() int           { return len(h) }
func (h byWeight) Less(i, j int) bool { return h[i].Weight < h[j].Weight }
func (h byWeight) Swap(i, j int)      { h[i], h[j] = h[j], h[i] }
func (h *byWeight) Push(e any)        { *h = append(*h, e.(api.Edge)) }

func (h *byWeight) Pop() any {
	last := len(*h) - 1
	e := (*h)[last]
	*h = (*h)[:last]
	return e
}

// growth is a tree that grows from node 0 on, and the edges that it has touched.
type growth struct {
	edges   []api.Edge
	reached [api.MaxNodes]bool
	count   int
	touched byWeight
}

// joinAll lets a tree grow over the lightest edge that it touches, again and again, and tells whether it reaches all nodes. The edges must be between nodes.
func joinAll(nodes int, edges []api.Edge) bool {
	g := growth{edges: edges}
	g.reach(0)
	for len(g.touched) > 0 {
		e := heap.Pop(&g.touched).(api.Edge)
		g.reach(e.A)
		g.reach(e.B)
	}
	return g.count == nodes
}

// reach takes in a node with its edges, once: so the tree stops growing.
func (g *growth) reach(node int) {
	if g.reached[node] {
		return
	}
	g.reached[node] = true
	g.count++
	for _, e := range g.edges {
		if e.A == node || e.B == node {
			heap.Push(&g.touched, e)
		}
	}
}
