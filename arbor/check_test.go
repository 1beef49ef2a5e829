package arbor_test

import (
	"math"
	"slices"
	"testing"

	"arbor/api"
	"arbor/arbor"
)

// path gives edges 0-1, 1-2, .. with the weights 10, 20, ..
func path(nodes int) []api.Edge {
	var l []api.Edge
	for k := 1; k < nodes; k++ {
		l = append(l, api.Edge{A: k - 1, B: k, Weight: 10 * k})
	}
	return l
}

// with gives the edges and more of them, in a list of its own.
func with(l []api.Edge, more ...api.Edge) []api.Edge { return append(slices.Clone(l), more...) }

// padded gives n edges: those of l and others among the nodes below top that l does not join yet.
func padded(l []api.Edge, top, n int) []api.Edge {
	l = slices.Clone(l)
	for a := range top {
		for b := a + 2; b < top && len(l) < n; b++ {
			l = append(l, api.Edge{A: b, B: a, Weight: 301 + len(l)})
		}
	}
	return l
}

// wantCheck asks for the answer whichever way round the edges are told.
func wantCheck(t *testing.T, nodes int, edges []api.Edge, want api.Errno) {
	t.Helper()
	turned := slices.Clone(edges)
	slices.Reverse(turned)
	for i, e := range turned {
		turned[i] = api.Edge{A: e.B, B: e.A, Weight: e.Weight}
	}
	for _, l := range [][]api.Edge{edges, turned} {
		kept := slices.Clone(l)
		if got := arbor.Check(nodes, l); got != want {
			t.Errorf("Check(%d, %v) = %d, want %d", nodes, l, got, want)
		}
		if !slices.Equal(l, kept) {
			t.Errorf("P2: Check(%d, %v) wrote into its edges: %v", nodes, kept, l)
		}
	}
}

func TestP3Graphs(t *testing.T) {
	wantCheck(t, 1, nil, api.OK)
	wantCheck(t, 1, []api.Edge{}, api.OK)
	for nodes := 1; nodes <= api.MaxNodes; nodes++ {
		wantCheck(t, nodes, path(nodes), api.OK)
	}
	wantCheck(t, 2, []api.Edge{{A: 0, B: 1, Weight: 1}}, api.OK)
	wantCheck(t, 2, []api.Edge{{A: 0, B: 1, Weight: api.MaxWeight}}, api.OK)
	wantCheck(t, 3, []api.Edge{{A: 0, B: 1, Weight: 1}, {A: 2, B: 1, Weight: api.MaxWeight}}, api.OK)
	full := padded(path(api.MaxNodes), api.MaxNodes, api.MaxEdges)
	if len(full) != api.MaxEdges {
		t.Fatalf("the test's own list has %d edges", len(full))
	}
	wantCheck(t, api.MaxNodes, full, api.OK)
}

func TestP3Size(t *testing.T) {
	for _, nodes := range []int{0, -1, api.MaxNodes + 1, math.MinInt, math.MaxInt} {
		wantCheck(t, nodes, nil, api.ErrSize)
		wantCheck(t, nodes, path(api.MaxNodes), api.ErrSize)
	}
	wantCheck(t, api.MaxNodes, padded(path(api.MaxNodes), api.MaxNodes, api.MaxEdges+1), api.ErrSize)
	wantCheck(t, 1, make([]api.Edge, api.MaxEdges+1), api.ErrSize)
	wantCheck(t, 1, make([]api.Edge, 100000), api.ErrSize)
}

func TestP3Edge(t *testing.T) {
	wantCheck(t, 1, []api.Edge{{A: 0, B: 0, Weight: 1}}, api.ErrEdge)
	for nodes := 2; nodes <= api.MaxNodes; nodes++ {
		for _, k := range []int{-1, nodes, api.MaxNodes, api.MaxNodes + 1, math.MinInt, math.MaxInt} {
			wantCheck(t, nodes, with(path(nodes), api.Edge{A: 0, B: k, Weight: 500}), api.ErrEdge)
			wantCheck(t, nodes, with(path(nodes), api.Edge{A: k, B: k, Weight: 500}), api.ErrEdge)
		}
		for k := range nodes {
			wantCheck(t, nodes, with(path(nodes), api.Edge{A: k, B: k, Weight: 500}), api.ErrEdge)
		}
	}
}

func TestP3Weight(t *testing.T) {
	for _, w := range []int{0, -1, api.MaxWeight + 1, math.MinInt, math.MaxInt} {
		wantCheck(t, 2, []api.Edge{{A: 0, B: 1, Weight: w}}, api.ErrWeight)
		wantCheck(t, 4, with(path(4), api.Edge{A: 0, B: 2, Weight: w}), api.ErrWeight)
	}
	for _, e := range path(api.MaxNodes) {
		wantCheck(t, api.MaxNodes, with(path(api.MaxNodes), api.Edge{A: 0, B: 5, Weight: e.Weight}), api.ErrWeight)
	}
	for _, w := range []int{1, api.MaxWeight} {
		wantCheck(t, 3, []api.Edge{{A: 0, B: 1, Weight: w}, {A: 1, B: 2, Weight: w}}, api.ErrWeight)
	}
}

func TestP3Twice(t *testing.T) {
	for _, e := range path(api.MaxNodes) {
		wantCheck(t, api.MaxNodes, with(path(api.MaxNodes), api.Edge{A: e.A, B: e.B, Weight: 500}), api.ErrTwice)
		wantCheck(t, api.MaxNodes, with(path(api.MaxNodes), api.Edge{A: e.B, B: e.A, Weight: 500}), api.ErrTwice)
	}
	wantCheck(t, 2, []api.Edge{{A: 0, B: 1, Weight: 1}, {A: 1, B: 0, Weight: 2}}, api.ErrTwice)
}

func TestP3Apart(t *testing.T) {
	for nodes := 2; nodes <= api.MaxNodes; nodes++ {
		wantCheck(t, nodes, nil, api.ErrApart)
		for k := range path(nodes) {
			wantCheck(t, nodes, slices.Delete(path(nodes), k, k+1), api.ErrApart)
		}
	}
	// As many edges as a graph may have do not help a node that has none.
	wantCheck(t, api.MaxNodes, padded(path(api.MaxNodes-1), api.MaxNodes-1, api.MaxEdges), api.ErrApart)
}

// TestP3Order has every choice of faults at once: the one that is named first is answered.
func TestP3Order(t *testing.T) {
	const size, edge, weight, twice, apart = 1, 2, 4, 8, 16
	order := []struct {
		fault int
		e     api.Errno
	}{{size, api.ErrSize}, {edge, api.ErrEdge}, {weight, api.ErrWeight}, {twice, api.ErrTwice}, {apart, api.ErrApart}}
	for faults := range 32 {
		l := path(api.MaxNodes)
		if faults&apart != 0 {
			l = path(api.MaxNodes - 1)
		}
		if faults&twice != 0 {
			l = append(l, api.Edge{A: 1, B: 0, Weight: 500})
		}
		if faults&weight != 0 {
			l = append(l, api.Edge{A: 8, B: 5, Weight: 10})
		}
		if faults&edge != 0 {
			l = append(l, api.Edge{A: 3, B: 3, Weight: 501})
		}
		if faults&size != 0 {
			l = padded(l, api.MaxNodes-1, api.MaxEdges+1)
		}
		want := api.OK
		for _, o := range order {
			if faults&o.fault != 0 {
				want = o.e
				break
			}
		}
		wantCheck(t, api.MaxNodes, l, want)
	}
	// One edge, or two, with several faults of their own.
	wantCheck(t, 0, []api.Edge{{A: 0, B: 0, Weight: 0}}, api.ErrSize)
	wantCheck(t, 3, []api.Edge{{A: 1, B: 1, Weight: 0}}, api.ErrEdge)
	wantCheck(t, 3, []api.Edge{{A: 0, B: 1, Weight: 0}, {A: 0, B: 3, Weight: 1}}, api.ErrEdge)
	wantCheck(t, 3, []api.Edge{{A: 0, B: 1, Weight: 5}, {A: 0, B: 1, Weight: 5}}, api.ErrWeight)
	wantCheck(t, 3, []api.Edge{{A: 0, B: 1, Weight: 5}, {A: 1, B: 0, Weight: 6}}, api.ErrTwice)
}

// TestP2CheckSpareRoom: what lies behind the list is not written into either.
func TestP2CheckSpareRoom(t *testing.T) {
	all := padded(path(api.MaxNodes), api.MaxNodes, api.MaxEdges)
	kept := slices.Clone(all)
	if e := arbor.Check(api.MaxNodes, all[:api.MaxNodes-1]); e != api.OK {
		t.Errorf("Check = %d", e)
	}
	if !slices.Equal(all, kept) {
		t.Errorf("P2: Check wrote behind its edges: %v", all)
	}
}
