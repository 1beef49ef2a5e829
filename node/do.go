package node

import "arbor/api"

// do does a message, and tells whether it did: else it must be put off.
func (n *Node) do(c came) bool {
	j := c.edge
	switch m := c.m.(type) {
	case connect:
		return n.connect(j, m)
	case initiate:
		n.initiate(j, m)
	case test:
		return n.test(j, m)
	case accept:
		n.accept(j)
	case reject:
		n.reject(j)
		n.tests()
	case report:
		return n.report(j, m)
	case root:
		n.changeRoot()
	}
	return true
}

// connect takes in a lower fragment at once; one that is no lower must wait till this one has chosen the same edge.
func (n *Node) connect(j int, m connect) bool {
	n.Wake()
	switch {
	case m.level < n.level:
		n.edges[j].state = api.Branch
		n.spread(j, initiate{n.level, n.name, n.state == api.Find})
	case n.edges[j].state == api.Basic:
		return false
	default:
		n.send(j, initiate{n.level + 1, n.edges[j].weight, true})
	}
	return true
}

// spread sends an Initiate on; who is to find is to report.
func (n *Node) spread(j int, m initiate) {
	n.send(j, m)
	if m.finding {
		n.count++
	}
}

func (n *Node) initiate(from int, m initiate) {
	n.level, n.name, n.state = m.level, m.name, api.Found
	n.in, n.best, n.bestWeight = from, none, aboveAll
	if m.finding {
		n.state = api.Find
	}
	for j := range n.edges {
		if j != from && n.IsBranch(j) {
			n.spread(j, m)
		}
	}
	if m.finding {
		n.tests()
	}
}

// tests asks over the lightest edge of which it is not known where it leads.
func (n *Node) tests() {
	n.tested = n.lightestBasic()
	if n.tested == none {
		n.reports()
		return
	}
	n.send(n.tested, test{n.level, n.name})
}

// test answers only one whose fragment is no higher: to a higher one this node may belong before long.
func (n *Node) test(j int, m test) bool {
	n.Wake()
	if m.level > n.level {
		return false
	}
	if m.name != n.name {
		n.send(j, accept{})
		return true
	}
	n.reject(j)
	if n.tested == j {
		n.tests() // the Test that crosses this one tells the neighbour enough
	} else {
		n.send(j, reject{})
	}
	return true
}

func (n *Node) accept(j int) {
	n.tested = none
	n.hear(j, n.edges[j].weight)
	n.reports()
}

// reject leaves a branch as it is: by then the fragments may have joined over it.
func (n *Node) reject(j int) {
	if n.edges[j].state == api.Basic {
		n.edges[j].state = api.Rejected
	}
}

// hear is told of an edge that leads out of the fragment, and lies at j or beyond it.
func (n *Node) hear(j, weight int) {
	if weight < n.bestWeight {
		n.best, n.bestWeight = j, weight
	}
}

// reports waits for all that must be heard first.
func (n *Node) reports() {
	if n.count != 0 || n.tested != none {
		return
	}
	n.state = api.Found
	if n.in != none {
		n.send(n.in, report{n.bestWeight})
	}
}

// report over IN is the other half's, at the edge in the fragment's middle.
func (n *Node) report(j int, m report) bool {
	if j != n.in {
		n.count--
		n.hear(j, m.weight)
		n.reports()
		return true
	}
	switch {
	case n.state == api.Find:
		return false
	case m.weight > n.bestWeight:
		n.changeRoot()
	case m.weight == aboveAll && n.bestWeight == aboveAll:
		n.over = true
	}
	return true
}

// changeRoot goes towards the best edge, and over it.
func (n *Node) changeRoot() {
	if n.best == none {
		return
	}
	if n.IsBranch(n.best) {
		n.send(n.best, root{})
		return
	}
	n.send(n.best, connect{n.level})
	n.edges[n.best].state = api.Branch
}
