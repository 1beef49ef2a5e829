package arbor_test

import (
	"bytes"
	"fmt"
	"slices"
	"testing"

	"arbor/api"
	"arbor/arbor"
)

// star has node 0 in its middle: the edge to node k weighs 10 * k.
func star(nodes int) []api.Edge {
	var l []api.Edge
	for k := nodes - 1; k > 0; k-- {
		l = append(l, api.Edge{A: 0, B: k, Weight: 10 * k})
	}
	return l
}

// TestP8PutOff: the middle puts three neighbours off, in the order in which they come; tries them in vain; and at last does them in that order.
func TestP8PutOff(t *testing.T) {
	n := newNet(t, 5, star(5)...)
	wakes(t, n, 3, 4, 2, 1)
	wantPackets(t, n, "3>0 0 connect0", "4>0 0 connect0", "2>0 0 connect0", "1>0 0 connect0")
	delivers(t, n, 0)
	wantPackets(t, n, "4>0 0 connect0", "2>0 0 connect0", "1>0 0 connect0", "0>3 a1", "0>1 0 connect0")
	wantLook(t, n, 0, "found 0.0 [1 0 0 0] off 1 over false")
	delivers(t, n, 0, 0)
	wantLook(t, n, 0, "found 0.0 [1 0 0 0] off 3 over false")
	wantPackets(t, n, "1>0 0 connect0", "0>3 a1", "0>1 0 connect0", "0>4 a1", "0>2 a1")
	delivers(t, n, 0) // done; the others are tried, and stay
	wantLook(t, n, 0, "found 0.0 [1 0 0 0] off 3 over false")
	wantPackets(t, n, "0>3 a1", "0>1 0 connect0", "0>4 a1", "0>2 a1", "0>1 a1", "0>1 1 initiate1.10!")
	delivers(t, n, 1)
	wantPackets(t, n, "0>3 a1", "0>4 a1", "0>2 a1", "0>1 a1", "0>1 1 initiate1.10!", "1>0 a1", "1>0 1 initiate1.10!")
	delivers(t, n, 6) // the middle is of level 1 now: it tests, then takes the others in
	wantLook(t, n, 0, "find 1.10 [1 1 1 1] off 0 over false")
	wantPackets(t, n, "0>3 a1", "0>4 a1", "0>2 a1", "0>1 a1", "0>1 1 initiate1.10!", "1>0 a1",
		"0>1 a2", "0>2 0 test1.10", "0>3 0 initiate1.10!", "0>4 0 initiate1.10!", "0>2 1 initiate1.10!")
	deliverBut(t, n, func(api.Packet) bool { return false })
	for k, want := range []string{"[1 1 1 1] off 0 over true", "[1] off 0 over true", "[1] off 0 over false", "[1] off 0 over false", "[1] off 0 over false"} {
		wantLook(t, n, k, "found 1.10 "+want)
	}
}

// TestP8PutOffStays: of two that are put off the later one is done first, and the earlier one stays.
func TestP8PutOffStays(t *testing.T) {
	// The fragment of 1, 2, 3 and 4 is of level 2 when it tests the edge to 0, which sleeps till then.
	edges := []api.Edge{{A: 1, B: 2, Weight: 1}, {A: 3, B: 4, Weight: 2}, {A: 2, B: 4, Weight: 3}, {A: 0, B: 5, Weight: 4}, {A: 4, B: 0, Weight: 5}, {A: 0, B: 6, Weight: 6}}
	n := newNet(t, 7, edges...)
	wakes(t, n, 1, 2, 3, 4)
	deliverBut(t, n, func(p api.Packet) bool { return p.To == 0 })
	wantPackets(t, n, "4>0 0 test2.3")
	wakes(t, n, 6)
	delivers(t, n, 0, 0)
	wantPackets(t, n, "0>4 a1", "0>5 0 connect0", "0>6 a1")
	wantLook(t, n, 0, "found 0.0 [1 0 0] off 2 over false")
	delivers(t, n, 1)
	wantPackets(t, n, "0>4 a1", "0>6 a1", "5>0 a1", "5>0 0 connect0", "5>0 1 initiate1.4!")
	delivers(t, n, 2, 2, 2) // level 1: that is enough for the Connect, not for the Test
	wantLook(t, n, 0, "find 1.4 [1 0 1] off 1 over false")
	wantPackets(t, n, "0>4 a1", "0>6 a1", "0>5 a1", "0>5 1 initiate1.4!", "0>5 a2", "0>4 0 test1.4", "0>6 0 initiate1.4!")
	deliverBut(t, n, func(p api.Packet) bool { return p.From == 4 && p.To == 0 && p.Bytes[0] == 1 })
	wantPackets(t, n, "4>0 1 accept")
	wantLook(t, n, 0, "find 1.4 [1 0 1] off 2 over false") // 5 has reported: behind the Test that is put off, and done ahead of it
	delivers(t, n, 0)
	deliverBut(t, n, func(p api.Packet) bool { return p.From == 4 && p.To == 0 && p.Bytes[0] == 1 })
	wantPackets(t, n, "4>0 2 initiate2.3!")
	wantLook(t, n, 0, "found 1.4 [1 1 1] off 1 over false")
	delivers(t, n, 0) // the same fragment by now: the Test is done, and the edge stays a branch
	wantLook(t, n, 0, "find 2.3 [1 1 1] off 0 over false")
	wantPackets(t, n, "0>4 a3", "0>5 3 initiate2.3!", "0>6 1 initiate2.3!", "0>4 2 reject")
	deliverBut(t, n, func(api.Packet) bool { return false })
	wantTree(t, n, edges...)
}

func TestP9Errors(t *testing.T) {
	n := pair(t)
	refuses := func(k int) {
		t.Helper()
		wantSame(t, n, "a call without a packet", func() {
			t.Helper()
			wantErr(t, "Lose of none", n.Lose(k), api.ErrPacket)
			wantErr(t, "Again of none", n.Again(k), api.ErrPacket)
			wantErr(t, "Spoil of none", n.Spoil(k, 0, 1), api.ErrPacket)
			wantErr(t, "Spoil of none", n.Spoil(k, -1, 0), api.ErrPacket) // named first
		})
	}
	for _, k := range append([]int{0, 1}, noPlace...) {
		refuses(k)
	}
	wakes(t, n, 0, 1)
	for _, k := range append([]int{2, 3}, noPlace...) {
		refuses(k)
	}
	wantErr(t, "Spoil", n.Spoil(0, 0, 1), api.OK)
	for _, k := range append([]int{2}, noPlace...) {
		refuses(k)
	}
	wantErr(t, "Lose", n.Lose(0), api.OK)
	refuses(1)
}

func TestP9Lose(t *testing.T) {
	n := newNet(t, 5, star(5)...)
	wakes(t, n, 1, 2, 3, 4)
	wantErr(t, "Lose", n.Lose(1), api.OK)
	wantPackets(t, n, "1>0 0 connect0", "3>0 0 connect0", "4>0 0 connect0")
	wantErr(t, "Lose", n.Lose(2), api.OK)
	wantErr(t, "Lose", n.Lose(0), api.OK)
	wantPackets(t, n, "3>0 0 connect0")
	wantErr(t, "Lose", n.Lose(0), api.OK)
	wantPackets(t, n)
	wantLook(t, n, 0, "asleep 0.0 [0 0 0 0] off 0 over false")
	wantErr(t, "Tick", n.Tick(2), api.OK)
	wantPackets(t, n, "2>0 0 connect0")
}

func TestP9Again(t *testing.T) {
	n := newNet(t, 3, star(3)...)
	wakes(t, n, 1, 2)
	wantErr(t, "Again", n.Again(0), api.OK)
	wantErr(t, "Again", n.Again(1), api.OK)
	wantErr(t, "Again", n.Again(2), api.OK)
	wantPackets(t, n, "1>0 0 connect0", "2>0 0 connect0", "1>0 0 connect0", "2>0 0 connect0", "1>0 0 connect0")
	delivers(t, n, 4)
	wantPackets(t, n, "1>0 0 connect0", "2>0 0 connect0", "1>0 0 connect0", "2>0 0 connect0", "0>1 a1", "0>1 0 connect0", "0>1 1 initiate1.10!")
	delivers(t, n, 0) // the same once more: it is acknowledged, and nothing else
	wantPackets(t, n, "2>0 0 connect0", "1>0 0 connect0", "2>0 0 connect0", "0>1 a1", "0>1 0 connect0", "0>1 1 initiate1.10!", "0>1 a1")
}

// TestP9Spoil has each byte of both kinds of frames, and each number but 0: the bytes are no frame any more, and are nothing when they come.
func TestP9Spoil(t *testing.T) {
	n := pair(t)
	wakes(t, n, 0)
	wantErr(t, "Again", n.Again(0), api.OK)
	delivers(t, n, 0)
	wantPackets(t, n, "0>1 0 connect0", "1>0 a1", "1>0 0 connect0", "1>0 1 initiate1.7!")
	for place, size := range []int{10, 5, 10, 10} {
		for _, at := range append([]int{size, size + 1}, noPlace...) {
			wantSame(t, n, "Spoil", func() { wantErr(t, "Spoil at no byte", n.Spoil(place, at, 1), api.ErrSpoilt) })
		}
		before := n.Packets()[place]
		for at := range size {
			wantSame(t, n, "Spoil", func() { wantErr(t, "Spoil with 0", n.Spoil(place, at, 0), api.ErrSpoilt) })
			for with := 1; with < 256; with++ {
				wantErr(t, "Again", n.Again(place), api.OK)
				wantErr(t, "Spoil", n.Spoil(4, at, byte(with)), api.OK)
				want := bytes.Clone(before.Bytes)
				want[at] ^= byte(with)
				l := n.Packets()
				if p := l[4]; p.From != before.From || p.To != before.To || !bytes.Equal(p.Bytes, want) {
					t.Fatalf("Spoil(%d, %d) makes %v of %v", at, with, p, before)
				}
				if !bytes.Equal(l[place].Bytes, before.Bytes) {
					t.Fatalf("Spoil of one that is alike makes %v of %v", l[place], before)
				}
				delivers(t, n, 4)
				wantPackets(t, n, "0>1 0 connect0", "1>0 a1", "1>0 0 connect0", "1>0 1 initiate1.7!")
				wantLook(t, n, 0, "found 0.0 [1] off 0 over false")
			}
		}
	}
}

// TestP9SpoilOnce: a packet is spoilt once, and so is one that is alike to it; one that was alike ahead of that is not.
func TestP9SpoilOnce(t *testing.T) {
	n := newNet(t, 3, star(3)...)
	wakes(t, n, 1, 2)
	wantErr(t, "Again", n.Again(0), api.OK)
	wantErr(t, "Spoil", n.Spoil(0, 9, 255), api.OK)
	wantErr(t, "Again of a spoilt one", n.Again(0), api.OK)
	wantErr(t, "Again of that", n.Again(3), api.OK)
	wantPackets(t, n, "1>0 ?", "2>0 0 connect0", "1>0 0 connect0", "1>0 ?", "1>0 ?")
	for _, k := range []int{0, 3, 4} {
		for at := range 10 {
			for _, with := range []byte{0, 1, 255} {
				wantSame(t, n, "Spoil", func() { wantErr(t, "Spoil once more", n.Spoil(k, at, with), api.ErrSpoilt) })
			}
		}
	}
	wantErr(t, "Lose", n.Lose(0), api.OK) // the others move up, each with its mark
	wantErr(t, "Spoil of a spoilt one", n.Spoil(2, 0, 1), api.ErrSpoilt)
	wantErr(t, "Spoil of a spoilt one", n.Spoil(3, 0, 1), api.ErrSpoilt)
	wantErr(t, "Spoil", n.Spoil(1, 0, 1), api.OK)
	wantErr(t, "Spoil", n.Spoil(0, 0, 1), api.OK)
	delivers(t, n, 0, 0, 0, 0)
	wantPackets(t, n)
	wantLook(t, n, 0, "asleep 0.0 [0 0] off 0 over false")
	wantErr(t, "Tick", n.Tick(1), api.OK)
	wantErr(t, "Spoil of one that went out again", n.Spoil(0, 0, 1), api.OK)
}

// fill doubles the first packet till there are MaxBag.
func fill(t *testing.T, n *arbor.Net) {
	t.Helper()
	for len(n.Packets()) < api.MaxBag {
		wantErr(t, "Again", n.Again(0), api.OK)
	}
}

// wantLast: the bag is full, and the last packets are these.
func wantLast(t *testing.T, n *arbor.Net, want ...string) {
	t.Helper()
	l := n.Packets()
	if len(l) != api.MaxBag {
		t.Fatalf("%d packets", len(l))
	}
	for i, w := range want {
		if got := packetWords(l[api.MaxBag-len(want)+i:][:1]); got != w {
			t.Fatalf("the last packets: %s, want %v", packetWords(l[api.MaxBag-len(want):]), want)
		}
	}
}

// TestP9Full: where there is no room, what goes out is lost, by whatever call, and goes out again by Tick.
func TestP9Full(t *testing.T) {
	n := newNet(t, 3, star(3)...)
	wakes(t, n, 1)
	fill(t, n)
	wantSame(t, n, "Again", func() {
		for _, k := range []int{0, 150, 299} {
			wantErr(t, "Again without room", n.Again(k), api.OK)
		}
	})
	wantErr(t, "Deliver", n.Deliver(300), api.ErrPacket)
	packets := packetWords(n.Packets())
	wakes(t, n, 2)
	if got := packetWords(n.Packets()); got != packets {
		t.Fatalf("Wake without room: %s", got)
	}
	wantLook(t, n, 2, "found 0.0 [1] off 0 over false")
	wantErr(t, "Tick", n.Tick(2), api.OK)
	wantLast(t, n, "1>0 0 connect0")
	wantErr(t, "Lose", n.Lose(0), api.OK)
	wantErr(t, "Tick", n.Tick(2), api.OK)
	wantLast(t, n, "1>0 0 connect0", "2>0 0 connect0")

	delivers(t, n, 0) // three frames go out, and there is room for the first
	wantLast(t, n, "2>0 0 connect0", "0>1 a1")
	wantLook(t, n, 0, "found 0.0 [1 0] off 0 over false")
	wantErr(t, "Lose", n.Lose(5), api.OK)
	wantErr(t, "Tick", n.Tick(0), api.OK)
	wantLast(t, n, "0>1 a1", "0>1 0 connect0")
	for range 2 {
		wantErr(t, "Lose", n.Lose(5), api.OK)
	}
	wantErr(t, "Tick", n.Tick(0), api.OK)
	wantLast(t, n, "0>1 a1", "0>1 0 connect0", "0>1 0 connect0", "0>1 1 initiate1.10!")
	wantErr(t, "Lose", n.Lose(299), api.OK)
	wantErr(t, "Again", n.Again(296), api.OK)
	wantLast(t, n, "0>1 a1", "0>1 0 connect0", "0>1 0 connect0", "0>1 a1")
	for range api.MaxBag {
		wantErr(t, "Lose", n.Lose(0), api.OK)
	}
	wantPackets(t, n)
}

// TestP9FullSpoilt: of spoilt packets a bag may be full, too.
func TestP9FullSpoilt(t *testing.T) {
	n := pair(t)
	wakes(t, n, 0)
	wantErr(t, "Spoil", n.Spoil(0, 0, 8), api.OK)
	fill(t, n)
	for k := range api.MaxBag {
		wantErr(t, "Spoil of one that is alike", n.Spoil(k, 1, 1), api.ErrSpoilt)
	}
	for range api.MaxBag {
		delivers(t, n, 0)
	}
	wantPackets(t, n)
	wantLook(t, n, 1, "asleep 0.0 [0] off 0 over false")
}

func TestP10Tick(t *testing.T) {
	n := newNet(t, 4, star(4)...)
	wakes(t, n, 3)
	delivers(t, n, 0)
	wantPackets(t, n, "0>3 a1", "0>1 0 connect0")
	delivers(t, n, 1)
	wantPackets(t, n, "0>3 a1", "1>0 a1", "1>0 0 connect0", "1>0 1 initiate1.10!")
	delivers(t, n, 2, 2)
	wantPackets(t, n, "0>3 a1", "1>0 a1", "0>1 a1", "0>1 1 initiate1.10!", "0>1 a2", "0>2 0 test1.10", "0>3 0 initiate1.10!")
	for _, k := range append([]int{4, 10}, noPlace...) {
		wantSame(t, n, "Tick of none", func() { wantErr(t, "Tick of none", n.Tick(k), api.ErrNode) })
	}
	for len(n.Packets()) > 0 {
		wantErr(t, "Lose", n.Lose(0), api.OK)
	}
	wantErr(t, "Tick", n.Tick(2), api.OK)
	wantPackets(t, n)
	wantErr(t, "Tick", n.Tick(0), api.OK) // edge by edge, from the lightest on; acknowledgements do not go out again
	first := []string{"0>1 0 connect0", "0>1 1 initiate1.10!", "0>2 0 test1.10", "0>3 0 initiate1.10!"}
	wantPackets(t, n, first...)
	wantErr(t, "Tick", n.Tick(0), api.OK)
	wantPackets(t, n, append(slices.Clone(first), first...)...)
	wantErr(t, "Tick", n.Tick(1), api.OK)
	wantPackets(t, n, append(append(slices.Clone(first), first...), "1>0 0 connect0", "1>0 1 initiate1.10!")...)
}

func TestP11Look(t *testing.T) {
	n := newNet(t, 3, api.Edge{A: 0, B: 1, Weight: 1}, api.Edge{A: 1, B: 2, Weight: 2}, api.Edge{A: 2, B: 0, Weight: 3})
	refuses := func() {
		for _, k := range append([]int{3, 10}, noPlace...) {
			x, e := n.Look(k)
			if e != api.ErrNode || x.Edges != nil || nodeWords(x) != "asleep 0.0 [] off 0 over false" {
				t.Fatalf("Look(%d) = %+v, %d", k, x, e)
			}
		}
	}
	refuses()
	wakes(t, n, 2)
	wantLook(t, n, 2, "found 0.0 [1 0] off 0 over false")
	deliverBut(t, n, func(api.Packet) bool { return false })
	wantLook(t, n, 0, "found 1.1 [1 2] off 0 over true")
	wantLook(t, n, 1, "found 1.1 [1 1] off 0 over true")
	wantLook(t, n, 2, "found 1.1 [1 2] off 0 over false")
	refuses()
}

// TestP11Tree: a branch at one end is enough, at whichever; the edges are as they were handed in, by rising weight.
func TestP11Tree(t *testing.T) {
	edges := []api.Edge{{A: 3, B: 2, Weight: 30}, {A: 1, B: 0, Weight: 20}, {A: 1, B: 2, Weight: 10}, {A: 3, B: 0, Weight: 1000}}
	n := newNet(t, 4, edges...)
	wantTree(t, n)
	wakes(t, n, 3)
	wantTree(t, n, edges[0])
	wakes(t, n, 0)
	wantTree(t, n, edges[1], edges[0])
	wakes(t, n, 1)
	wantTree(t, n, edges[2], edges[1], edges[0])
	wakes(t, n, 2)
	wantTree(t, n, edges[2], edges[1], edges[0])
	deliverBut(t, n, func(api.Packet) bool { return false })
	wantTree(t, n, edges[2], edges[1], edges[0])

	m := newNet(t, 2, api.Edge{A: 1, B: 0, Weight: 1000})
	wakes(t, m, 0)
	wantTree(t, m, api.Edge{A: 1, B: 0, Weight: 1000})
	m = newNet(t, 2, api.Edge{A: 1, B: 0, Weight: 1000})
	wakes(t, m, 1)
	wantTree(t, m, api.Edge{A: 1, B: 0, Weight: 1000})
}

// TestP2Edges: the edges handed in are not written into, nor what lies behind them, and are not kept.
func TestP2Edges(t *testing.T) {
	room := append(star(4), api.Edge{A: 77, B: 77, Weight: 77}, api.Edge{A: 78})
	kept := slices.Clone(room)
	n := newNet(t, 4, room[:3]...)
	if !slices.Equal(room, kept) {
		t.Errorf("New makes %v of %v", room, kept)
	}
	for i := range room {
		room[i] = api.Edge{A: 9, B: 9, Weight: 9}
	}
	wakes(t, n, 0, 3)
	wantPackets(t, n, "0>1 0 connect0", "3>0 0 connect0")
	wantTree(t, n, api.Edge{A: 0, B: 1, Weight: 10}, api.Edge{A: 0, B: 3, Weight: 30})
}

// scribbleNet writes into all that a net tells, into its lists and into their spare room.
func scribbleNet(n *arbor.Net) {
	l := n.Packets()
	l = l[:cap(l)]
	for i := range l {
		scribble([][]byte{l[i].Bytes})
		l[i] = api.Packet{From: 77, To: 77, Bytes: []byte{77}}
	}
	tree := n.Tree()
	tree = tree[:cap(tree)]
	for i := range tree {
		tree[i] = api.Edge{A: 77, B: 77, Weight: 77}
	}
	for k := range api.MaxNodes {
		x, _ := n.Look(k)
		x.Edges = x.Edges[:cap(x.Edges)]
		for j := range x.Edges {
			x.Edges[j] = 77
		}
	}
}

// TestP2Nets: two nets go the same way; into all that the one tells is written, with the other nothing is done in between.
func TestP2Nets(t *testing.T) {
	edges := padded(path(6), 6, 12)
	a, b, idle := newNet(t, 6, edges...), newNet(t, 6, edges...), newNet(t, 6, edges...)
	for _, n := range []*arbor.Net{a, b} {
		wakes(t, n, 0, 5)
	}
	for step := range 400 {
		k := step * 7 % max(1, len(a.Packets()))
		scribbleNet(a)
		for _, n := range []*arbor.Net{a, b} {
			switch {
			case step%5 == 0:
				n.Again(k)
			case step%11 == 0:
				n.Spoil(k, step%5, 1)
			case step%17 == 0:
				n.Tick(step % 6)
			default:
				n.Deliver(k)
			}
		}
		scribbleNet(a)
		if x, y := fmt.Sprint(stateOf(a)), fmt.Sprint(stateOf(b)); x != y {
			t.Fatalf("step %d: %s\nbut where nothing was written into: %s", step, x, y)
		}
	}
	if tree := b.Tree(); len(tree) != 5 {
		t.Errorf("Tree: %v", tree)
	}
	for k := range 6 {
		if x, _ := idle.Look(k); x.State != api.Asleep {
			t.Errorf("node %d of another net: %+v", k, x)
		}
	}
	wantPackets(t, idle)
}

// TestP2PacketsApart: no two lists of one answer share room.
func TestP2PacketsApart(t *testing.T) {
	n := newNet(t, 4, star(4)...)
	wakes(t, n, 1, 2, 3)
	wantErr(t, "Again", n.Again(0), api.OK)
	l := n.Packets()
	for i := range l {
		want := bytes.Clone(l[i].Bytes)
		for k := range i {
			scribble([][]byte{l[k].Bytes})
		}
		if !bytes.Equal(l[i].Bytes, want) {
			t.Errorf("packet %d: %v, once those ahead of it were written into", i, l[i].Bytes)
		}
	}
}
