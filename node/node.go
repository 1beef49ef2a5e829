// Package node is what a node knows of itself and its own edges, and what it does for each message, to find the lightest tree with its neighbours.
package node

import (
	"slices"

	"arbor/api"
	"arbor/weighed"
)

// none is the place of no edge.
const none = -1

// Node is one node. Its edges are named by their places, from the lightest on.
type Node struct {
	state, level, name int
	edges              []edge
	in                 int
	best, bestWeight   int // the weight is that of the edge which leads out: best itself, or one beyond it
	tested             int
	count              int
	over               bool
	off                []came
	sent               []Letter
}

type edge struct{ weight, state int }

// came is a message that came over an edge.
type came struct {
	edge int
	m    message
}

// Letter is a message that a node sends over one of its edges.
type Letter struct {
	Edge int
	M    api.Message
}

// New gives a node that sleeps, with edges of these weights, which must rise.
func New(weights []int) *Node {
	n := &Node{in: none, best: none, bestWeight: aboveAll, tested: none}
	for _, w := range weights {
		n.edges = append(n.edges, edge{weight: w})
	}
	return n
}

// Wake wakes the node, if it is asleep.
func (n *Node) Wake() {
	if n.state != api.Asleep {
		return
	}
	n.level, n.state, n.count = 0, api.Found, 0
	j := n.lightestBasic()
	if j == none {
		n.over = true
		return
	}
	n.edges[j].state = api.Branch
	n.send(j, connect{n.level})
}

// Take does a message that came over an edge, or puts it off.
func (n *Node) Take(edge int, m api.Message) {
	c := came{edge, typed(m)}
	if !n.do(c) {
		n.off = append(n.off, c)
		return
	}
	for n.doOneOff() {
	}
}

// doOneOff does the first message of those put off that can be done by now, and tells whether there was one.
func (n *Node) doOneOff() bool {
	for k, c := range n.off {
		if n.do(c) {
			n.off = slices.Delete(n.off, k, k+1)
			return true
		}
	}
	return false
}

// Sent hands over what the node has sent since it was asked last, in order.
func (n *Node) Sent() []Letter {
	sent := n.sent
	n.sent = nil
	return sent
}

// Look tells what is known of the node.
func (n *Node) Look() api.Node {
	l := api.Node{State: n.state, Level: n.level, Name: n.name, Over: n.over, Off: len(n.off)}
	for _, e := range n.edges {
		l.Edges = append(l.Edges, e.state)
	}
	return l
}

// IsBranch tells whether an edge is a branch.
func (n *Node) IsBranch(edge int) bool { return n.edges[edge].state == api.Branch }

func (n *Node) send(j int, m message) { n.sent = append(n.sent, Letter{j, m.plain()}) }

// lightestBasic tells the lightest of the edges that are Basic, none if there is none.
func (n *Node) lightestBasic() int {
	var basic weighed.Heap[int]
	for j, e := range n.edges {
		if e.state == api.Basic {
			basic.Add(j, e.weight)
		}
	}
	if j, ok := basic.Take(); ok {
		return j
	}
	return none
}
