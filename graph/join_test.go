package graph

import (
	"testing"

	"arbor/api"
)

// pairs gives all edges there can be between so many nodes; their weights rise, fall or jump.
func pairs(nodes int, weight func(k int) int) []api.Edge {
	var l []api.Edge
	for a := range nodes {
		for b := range a {
			l = append(l, api.Edge{A: a, B: b, Weight: weight(len(l))})
		}
	}
	return l
}

// spread tells in the plainest way whether the edges join all nodes: a mark goes from end to end till it goes no farther.
func spread(nodes int, edges []api.Edge) bool {
	marked := make([]bool, nodes)
	marked[0] = true
	for range nodes {
		for _, e := range edges {
			if marked[e.A] || marked[e.B] {
				marked[e.A], marked[e.B] = true, true
			}
		}
	}
	for _, m := range marked {
		if !m {
			return false
		}
	}
	return true
}

// TestP3EverySmallGraph has every choice of edges between 1 to 5 nodes.
func TestP3EverySmallGraph(t *testing.T) {
	weights := []func(int) int{
		func(k int) int { return k + 1 },
		func(k int) int { return api.MaxWeight - k },
		func(k int) int { return 1 + k*7%11 },
	}
	for nodes := 1; nodes <= 5; nodes++ {
		for _, weight := range weights {
			all := pairs(nodes, weight)
			for choice := range 1 << len(all) {
				var l []api.Edge
				for k, e := range all {
					if choice>>k&1 == 1 {
						l = append(l, e)
					}
				}
				want := api.ErrApart
				if spread(nodes, l) {
					want = api.OK
				}
				if got := Check(nodes, l); got != want {
					t.Fatalf("Check(%d, %v) = %d, want %d", nodes, l, got, want)
				}
			}
		}
	}
}
