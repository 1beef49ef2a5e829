package arbor_test

import (
	"fmt"
	"math/rand"
	"slices"
	"testing"

	"arbor/api"
	"arbor/arbor"
)

// drawnGraph gives 1 to 10 nodes and edges, few or many, that join them.
func drawnGraph(r *rand.Rand) (int, []api.Edge) {
	nodes := 1 + r.Intn(api.MaxNodes)
	weights := r.Perm(api.MaxWeight)
	if r.Intn(2) == 0 {
		weights = r.Perm(api.MaxEdges) // close together
	}
	var l []api.Edge
	add := func(a, b int) {
		if r.Intn(2) == 0 {
			a, b = b, a
		}
		joined := slices.ContainsFunc(l, func(e api.Edge) bool { return e.A == a && e.B == b || e.A == b && e.B == a })
		if a != b && !joined && len(l) < api.MaxEdges {
			l = append(l, api.Edge{A: a, B: b, Weight: 1 + weights[len(l)]})
		}
	}
	names := r.Perm(nodes)
	for k := 1; k < nodes; k++ {
		add(names[k], names[r.Intn(k)])
	}
	for range r.Intn(60) {
		add(r.Intn(nodes), r.Intn(nodes))
	}
	r.Shuffle(len(l), func(i, j int) { l[i], l[j] = l[j], l[i] })
	return nodes, l
}

// joins tells whether the edges lead from one node to another.
func joins(edges []api.Edge, a, b int) bool {
	reached := map[int]bool{a: true}
	for range edges {
		for _, e := range edges {
			if reached[e.A] || reached[e.B] {
				reached[e.A], reached[e.B] = true, true
			}
		}
	}
	return reached[b]
}

// lightestTree has the edges between whose ends no lighter edges lead, by rising weight.
func lightestTree(edges []api.Edge) []api.Edge {
	var tree []api.Edge
	for w := range api.MaxWeight + 1 {
		for _, e := range edges {
			lighter := slices.DeleteFunc(slices.Clone(edges), func(f api.Edge) bool { return f.Weight >= w })
			if e.Weight == w && !joins(lighter, e.A, e.B) {
				tree = append(tree, e)
			}
		}
	}
	return tree
}

// wantWithin: what Tree tells are edges of the lightest tree, by rising weight.
func wantWithin(t *testing.T, n *arbor.Net, tree []api.Edge) {
	t.Helper()
	from := 0
	for _, e := range n.Tree() {
		k := slices.Index(tree[from:], e)
		if k < 0 {
			t.Fatalf("Tree: %v, but the lightest one is %v", n.Tree(), tree)
		}
		from += k + 1
	}
}

// isWhole tells whether the tree is found and nobody has anything to do any more.
func isWhole(n *arbor.Net, nodes int, tree []api.Edge) bool {
	over := 0
	for k := range nodes {
		x, _ := n.Look(k)
		if x.State != api.Found || x.Off > 0 {
			return false
		}
		if x.Over {
			over++
		}
	}
	return slices.Equal(n.Tree(), tree) && over == min(2, nodes)
}

// wantWhole: the tree is whole, and just two nodes are over, at the ends of one of its edges.
func wantWhole(t *testing.T, n *arbor.Net, nodes int, tree []api.Edge) {
	t.Helper()
	wantTree(t, n, tree...)
	var over []int
	for k := range nodes {
		x, _ := n.Look(k)
		if x.State != api.Found || x.Off != 0 {
			t.Fatalf("node %d in the end: %s", k, nodeWords(x))
		}
		if x.Over {
			over = append(over, k)
		}
	}
	if nodes == 1 && fmt.Sprint(over) == "[0]" {
		return
	}
	ends := func(e api.Edge) bool { return fmt.Sprint(over) == fmt.Sprint([]int{min(e.A, e.B), max(e.A, e.B)}) }
	if !slices.ContainsFunc(tree, ends) {
		t.Fatalf("over are %v, the tree is %v", over, tree)
	}
}

// chance is how a test draws what befalls packets: of 100 calls so many are these, the others Deliver.
type chance struct{ lose, again, spoil, tick, wake int }

// befall draws one call. The place of a packet is drawn, or the last or the first one, as the test wants.
func befall(r *rand.Rand, n *arbor.Net, nodes int, c chance, place func(count int) int) string {
	k := place(len(n.Packets()))
	x := r.Intn(100)
	for _, o := range []struct {
		chance int
		name   string
		call   func() api.Errno
	}{
		{c.lose, "lost", func() api.Errno { return n.Lose(k) }},
		{c.again, "doubled", func() api.Errno { return n.Again(k) }},
		{c.spoil, "spoilt", func() api.Errno { return n.Spoil(k, r.Intn(5), byte(1+r.Intn(255))) }},
		{c.tick, "ticked", func() api.Errno { return n.Tick(r.Intn(nodes)) }},
		{c.wake, "woken", func() api.Errno { return n.Wake(r.Intn(nodes)) }},
		{100, "come", func() api.Errno { return n.Deliver(k) }},
	} {
		if x -= o.chance; x < 0 {
			if o.call() != api.OK {
				return ""
			}
			return o.name
		}
	}
	return ""
}

// places are ways to choose a packet: any, the first, the last, one of the last three (so that the first ones come very late).
func places(r *rand.Rand) []func(count int) int {
	any := func(count int) int { return r.Intn(max(1, count)) }
	return []func(count int) int{
		any,
		func(int) int { return 0 },
		func(count int) int { return max(0, count-1) },
		func(count int) int {
			if r.Intn(8) == 0 {
				return any(count)
			}
			return max(0, count-1-r.Intn(3))
		},
	}
}

// TestP12Tree: packets are lost, doubled, spoilt and late, from the first to the last; Tree is never wrong, and whole in the end.
func TestP12Tree(t *testing.T) {
	fates := map[string]int{}
	for seed := range int64(600) {
		r := rand.New(rand.NewSource(seed))
		nodes, edges := drawnGraph(r)
		tree := lightestTree(edges)
		if len(tree) != nodes-1 {
			t.Fatalf("seed %d: the test's own tree %v of %v", seed, tree, edges)
		}
		n := newNet(t, nodes, edges...)
		c := []chance{{}, {tick: 10}, {lose: 20, tick: 15}, {again: 15}, {lose: 10, again: 10, spoil: 20, tick: 15, wake: 2}, {lose: 30, again: 15, spoil: 10, tick: 15, wake: 5}}[seed%6]
		place := places(r)[seed/6%4]
		if c.lose+c.spoil == 0 && seed/6%4 > 1 {
			c.tick = 5
		}
		wakes(t, n, r.Intn(nodes))
		for step := 0; !isWhole(n, nodes, tree); step++ {
			if step == 60000 {
				t.Fatalf("seed %d: after %d steps of %v the tree of %v is %v", seed, step, c, edges, n.Tree())
			}
			fates[befall(r, n, nodes, c, place)]++
			wantWithin(t, n, tree)
		}
		wantWhole(t, n, nodes, tree)
		finish(t, n, nodes, tree)
	}
	for _, fate := range []string{"lost", "doubled", "spoilt", "ticked", "woken", "come"} {
		if fates[fate] < 1000 {
			t.Errorf("only %d packets or nodes were %s", fates[fate], fate)
		}
	}
}

// finish lets all come that is on its way, with Ticks, till nothing is left to be sent: the tree stays whole.
func finish(t *testing.T, n *arbor.Net, nodes int, tree []api.Edge) {
	t.Helper()
	for round := 0; ; round++ {
		deliverBut(t, n, func(api.Packet) bool { return false })
		for k := range nodes {
			wantErr(t, "Tick", n.Tick(k), api.OK)
			wakes(t, n, k)
		}
		if len(n.Packets()) == 0 {
			break
		}
		if round == 100 {
			t.Fatalf("still not acknowledged: %s", packetWords(n.Packets()))
		}
	}
	wantWhole(t, n, nodes, tree)
}

// TestP12Small has all graphs of up to four nodes, with their weights in many orders, whoever wakes.
func TestP12Small(t *testing.T) {
	r := rand.New(rand.NewSource(1))
	for nodes := 1; nodes <= 4; nodes++ {
		var all []api.Edge
		for a := range nodes {
			for b := range a {
				all = append(all, api.Edge{A: a, B: b})
			}
		}
		for choice := range 1 << len(all) {
			for range 12 {
				var edges []api.Edge
				for k, w := range r.Perm(len(all)) {
					if choice>>k&1 == 1 {
						edges = append(edges, api.Edge{A: all[k].A, B: all[k].B, Weight: 1 + w})
					}
				}
				if arbor.Check(nodes, edges) != api.OK {
					continue
				}
				wakers := 1 + r.Intn(1<<nodes-1)
				n := newNet(t, nodes, edges...)
				for k := range nodes {
					if wakers>>k&1 == 1 {
						wakes(t, n, k)
					}
				}
				tree := lightestTree(edges)
				for len(n.Packets()) > 0 {
					delivers(t, n, r.Intn(len(n.Packets())))
					wantWithin(t, n, tree)
				}
				finish(t, n, nodes, tree)
			}
		}
	}
}

// TestP12Shapes has the greatest graphs of some shapes, where fragments join by pairs, one by one, or all into one.
func TestP12Shapes(t *testing.T) {
	const top = api.MaxNodes
	ruler := path(top)
	for k := range ruler {
		ruler[k].Weight = 1 + k + 100*trailing(k+1) // every second edge is light, every second of the others less so
	}
	falling := path(top)
	for k := range falling {
		falling[k].Weight = api.MaxWeight - k
	}
	ring := with(path(top), api.Edge{A: 0, B: top - 1, Weight: 5})
	for i, edges := range [][]api.Edge{path(top), falling, ruler, ring, star(top), padded(path(top), top, api.MaxEdges)} {
		tree := lightestTree(edges)
		for seed := range int64(40) {
			r := rand.New(rand.NewSource(seed))
			n := newNet(t, top, edges...)
			for _, k := range r.Perm(top)[:1+seed%top] {
				wakes(t, n, k)
			}
			place := places(r)[seed%4]
			for step := 0; !isWhole(n, top, tree); step++ {
				if step == 60000 {
					t.Fatalf("shape %d, seed %d: after %d steps the tree is %v", i, seed, step, n.Tree())
				}
				befall(r, n, top, chance{lose: 5, again: 5, spoil: 5, tick: 10}, place)
				wantWithin(t, n, tree)
			}
			finish(t, n, top, tree)
		}
	}
}

// trailing tells how often a number can be halved.
func trailing(k int) int {
	n := 0
	for ; k%2 == 0; k /= 2 {
		n++
	}
	return n
}

// TestP12Flood: nodes tick so often that there is never room; yet what comes is enough.
func TestP12Flood(t *testing.T) {
	edges := padded(path(8), 8, 20)
	tree := lightestTree(edges)
	n := newNet(t, 8, edges...)
	wakes(t, n, 3)
	for round := 0; !isWhole(n, 8, tree); round++ {
		if round == 10000 {
			t.Fatalf("the tree is %v", n.Tree())
		}
		for len(n.Packets()) < api.MaxBag {
			before := len(n.Packets())
			for k := range 8 {
				wantErr(t, "Tick", n.Tick((k+round)%8), api.OK)
			}
			if len(n.Packets()) == before {
				break
			}
		}
		for range 20 {
			n.Deliver(0)
		}
		wantWithin(t, n, tree)
	}
	finish(t, n, 8, tree)
}

// TestP12Asleep: as long as nobody wakes, there is no tree, and nothing is on its way.
func TestP12Asleep(t *testing.T) {
	n := newNet(t, api.MaxNodes, path(api.MaxNodes)...)
	for k := range api.MaxNodes {
		wantErr(t, "Tick", n.Tick(k), api.OK)
		wantErr(t, "Deliver", n.Deliver(k), api.ErrPacket)
	}
	wantTree(t, n)
	wantPackets(t, n)
}
