// Package mesh is nets: nodes, the links between them, and the packets on their way.
package mesh

import (
	"cmp"
	"slices"

	"arbor/api"
	"arbor/graph"
	"arbor/link"
	"arbor/node"
)

// Net is a net. It must be made by New.
type Net struct {
	edges []api.Edge // as they were handed in, by rising weight
	spots []spot     // of the nodes 0, 1, ..
	bag   bag
}

// spot is a node, with its side of the link at each of its edges, by rising weight.
type spot struct {
	node  *node.Node
	sides []side
}

type side struct {
	to  int // the neighbour
	end link.End
}

// New gives a net whose nodes sleep, or the error of Check.
func New(nodes int, edges []api.Edge) (Net, api.Errno) {
	if e := graph.Check(nodes, edges); e != api.OK {
		return Net{}, e
	}
	n := Net{edges: slices.Clone(edges)}
	slices.SortFunc(n.edges, func(e, f api.Edge) int { return cmp.Compare(e.Weight, f.Weight) })
	for k := range nodes {
		n.spots = append(n.spots, newSpot(k, n.edges))
	}
	return n, api.OK
}

// newSpot picks the node's own edges out of all, which are told by rising weight.
func newSpot(k int, edges []api.Edge) spot {
	var s spot
	var weights []int
	for _, e := range edges {
		if e.A != k && e.B != k {
			continue
		}
		s.sides = append(s.sides, side{to: e.A + e.B - k})
		weights = append(weights, e.Weight)
	}
	s.node = node.New(weights)
	return s
}

func (n *Net) hasNode(k int) bool { return 0 <= k && k < len(n.spots) }

// Wake wakes a node, if it is asleep.
func (n *Net) Wake(k int) api.Errno {
	if !n.hasNode(k) {
		return api.ErrNode
	}
	n.spots[k].node.Wake()
	n.post(k)
	return api.OK
}

// Packets tells what is on its way.
func (n *Net) Packets() []api.Packet { return n.bag.tell() }

// Deliver lets the packet at a place come to its node.
func (n *Net) Deliver(k int) api.Errno {
	if !n.bag.has(k) {
		return api.ErrPacket
	}
	p := n.bag.take(k)
	s := &n.spots[p.To]
	j := s.edgeTo(p.From)
	taken := s.sides[j].end.In(p.Bytes)
	n.carry(p.To, j)
	for _, m := range taken {
		s.node.Take(j, m)
		n.post(p.To)
	}
	return api.OK
}

// Lose takes a packet off its way.
func (n *Net) Lose(k int) api.Errno {
	if !n.bag.has(k) {
		return api.ErrPacket
	}
	n.bag.take(k)
	return api.OK
}

// Again lays a packet that is alike behind all others, if there is room.
func (n *Net) Again(k int) api.Errno {
	if !n.bag.has(k) {
		return api.ErrPacket
	}
	n.bag.add(n.bag[k].alike())
	return api.OK
}

// Spoil changes a byte of a packet that was not spoilt before.
func (n *Net) Spoil(k, at int, with byte) api.Errno {
	if !n.bag.has(k) {
		return api.ErrPacket
	}
	return n.bag[k].spoil(at, with)
}

// Tick lets a node show again what is not acknowledged, over each of its edges.
func (n *Net) Tick(k int) api.Errno {
	if !n.hasNode(k) {
		return api.ErrNode
	}
	for j := range n.spots[k].sides {
		n.spots[k].sides[j].end.Tick()
		n.carry(k, j)
	}
	return api.OK
}

// Look tells what is known of a node.
func (n *Net) Look(k int) (api.Node, api.Errno) {
	if !n.hasNode(k) {
		return api.Node{}, api.ErrNode
	}
	return n.spots[k].node.Look(), api.OK
}

// Tree tells the edges that are branches at either end.
func (n *Net) Tree() []api.Edge {
	var l []api.Edge
	for _, e := range n.edges {
		if n.spots[e.A].isBranch(e.B) || n.spots[e.B].isBranch(e.A) {
			l = append(l, e)
		}
	}
	return l
}

func (s *spot) isBranch(to int) bool { return s.node.IsBranch(s.edgeTo(to)) }

// edgeTo tells the place of the edge to a neighbour: there is just one.
func (s *spot) edgeTo(k int) int {
	return slices.IndexFunc(s.sides, func(x side) bool { return x.to == k })
}

// post sends what a node has to send. The end refuses none of it: a node's messages may all be, and it has no 65536 of them.
func (n *Net) post(k int) {
	s := &n.spots[k]
	for _, l := range s.node.Sent() {
		s.sides[l.Edge].end.Send(l.M)
		n.carry(k, l.Edge)
	}
}

// carry lays what went out at an end among the packets.
func (n *Net) carry(k, j int) {
	x := &n.spots[k].sides[j]
	for _, b := range x.end.Out() {
		n.bag.add(packet{Packet: api.Packet{From: k, To: x.to, Bytes: b}})
	}
}
