package arbor_test

import (
	"bytes"
	"fmt"
	"math"
	"reflect"
	"slices"
	"strings"
	"testing"

	"arbor/api"
	"arbor/arbor"
)

// noPlace has numbers that are the place of nothing, whatever there is.
var noPlace = []int{-1, -2, api.MaxBag, 1 << 32, math.MinInt, math.MaxInt}

func newNet(t *testing.T, nodes int, edges ...api.Edge) *arbor.Net {
	t.Helper()
	n, e := arbor.New(nodes, edges)
	if n == nil || e != api.OK {
		t.Fatalf("New(%d, %v) = %v, %d", nodes, edges, n, e)
	}
	return n
}

// frameWords writes down a frame: a and the number of an acknowledgement; the number and the words of a message.
func frameWords(b []byte) string {
	f, e := arbor.Decode(b)
	switch {
	case e != api.OK:
		return "?"
	case !f.Data:
		return fmt.Sprintf("a%d", f.Seq)
	}
	s := fmt.Sprintf("%d %s", f.Seq, []string{"connect", "initiate", "test", "accept", "reject", "report", "root"}[f.M.Kind-1])
	switch f.M.Kind {
	case api.Connect:
		s += fmt.Sprint(f.M.Level)
	case api.Initiate, api.Test:
		s += fmt.Sprintf("%d.%d", f.M.Level, f.M.Name)
	case api.Report:
		s += fmt.Sprint(f.M.Name)
	}
	if f.M.Finding {
		s += "!"
	}
	return s
}

// packetWords writes down packets: from, to, the frame.
func packetWords(l []api.Packet) string {
	var words []string
	for _, p := range l {
		words = append(words, fmt.Sprintf("%d>%d %s", p.From, p.To, frameWords(p.Bytes)))
	}
	return strings.Join(words, ", ")
}

func nodeWords(x api.Node) string {
	return fmt.Sprintf("%s %d.%d %v off %d over %v", []string{"asleep", "find", "found"}[x.State], x.Level, x.Name, x.Edges, x.Off, x.Over)
}

func wantPackets(t *testing.T, n *arbor.Net, want ...string) {
	t.Helper()
	if got := packetWords(n.Packets()); got != strings.Join(want, ", ") {
		t.Fatalf("Packets: %s\nwant: %s", got, strings.Join(want, ", "))
	}
}

func wantLook(t *testing.T, n *arbor.Net, node int, want string) {
	t.Helper()
	if x, e := n.Look(node); e != api.OK || nodeWords(x) != want {
		t.Fatalf("Look(%d): %s, %d, want %s", node, nodeWords(x), e, want)
	}
}

func wantTree(t *testing.T, n *arbor.Net, want ...api.Edge) {
	t.Helper()
	if got := n.Tree(); !slices.Equal(got, want) {
		t.Fatalf("Tree: %v, want %v", got, want)
	}
}

func wantErr(t *testing.T, what string, got, want api.Errno) {
	t.Helper()
	if got != want {
		t.Fatalf("%s = %d, want %d", what, got, want)
	}
}

// wakes, delivers: calls that must go well.
func wakes(t *testing.T, n *arbor.Net, nodes ...int) {
	t.Helper()
	for _, k := range nodes {
		wantErr(t, fmt.Sprintf("Wake(%d)", k), n.Wake(k), api.OK)
	}
}

func delivers(t *testing.T, n *arbor.Net, places ...int) {
	t.Helper()
	for _, k := range places {
		wantErr(t, fmt.Sprintf("Deliver(%d)", k), n.Deliver(k), api.OK)
	}
}

// state is all that can be seen of a net.
type state struct {
	packets []api.Packet
	nodes   []api.Node
	tree    []api.Edge
}

func stateOf(n *arbor.Net) state {
	s := state{packets: n.Packets(), tree: n.Tree()}
	for k := range api.MaxNodes {
		x, e := n.Look(k)
		if e != api.OK {
			break
		}
		s.nodes = append(s.nodes, x)
	}
	return s
}

// wantSame: a call that answers an error, or does nothing, changes nothing.
func wantSame(t *testing.T, n *arbor.Net, what string, call func()) {
	t.Helper()
	before := stateOf(n)
	call()
	if after := stateOf(n); !reflect.DeepEqual(before, after) {
		t.Fatalf("%s makes %+v of %+v", what, after, before)
	}
}

// pair is two nodes, one edge.
func pair(t *testing.T) *arbor.Net {
	t.Helper()
	return newNet(t, 2, api.Edge{A: 0, B: 1, Weight: 7})
}

func TestP6New(t *testing.T) {
	for _, c := range []struct {
		nodes int
		edges []api.Edge
		want  api.Errno
	}{
		{0, nil, api.ErrSize}, {-1, nil, api.ErrSize}, {11, path(11), api.ErrSize}, {math.MaxInt, nil, api.ErrSize}, {math.MinInt, nil, api.ErrSize},
		{0, []api.Edge{{A: 5, B: 5, Weight: -5}}, api.ErrSize},
		{2, []api.Edge{{A: 0, B: 2, Weight: 0}}, api.ErrEdge}, {2, []api.Edge{{A: 1, B: 1, Weight: 1}}, api.ErrEdge}, {1, path(2), api.ErrEdge},
		{2, []api.Edge{{A: 0, B: 1, Weight: 0}}, api.ErrWeight}, {2, []api.Edge{{A: 0, B: 1, Weight: 1001}}, api.ErrWeight},
		{2, []api.Edge{{A: 0, B: 1, Weight: 3}, {A: 0, B: 1, Weight: 3}}, api.ErrWeight},
		{3, []api.Edge{{A: 0, B: 1, Weight: 3}, {A: 1, B: 0, Weight: 4}}, api.ErrTwice},
		{2, nil, api.ErrApart}, {3, path(2), api.ErrApart},
	} {
		if n, e := arbor.New(c.nodes, c.edges); n != nil || e != c.want {
			t.Errorf("New(%d, %v) = %v, %d, want %d", c.nodes, c.edges, n, e, c.want)
		}
	}
	for nodes := 1; nodes <= api.MaxNodes; nodes++ {
		n := newNet(t, nodes, path(nodes)...)
		wantPackets(t, n)
		wantTree(t, n)
		for k := range nodes {
			edges := 2
			if k == 0 || k == nodes-1 {
				edges = min(1, nodes-1)
			}
			wantLook(t, n, k, fmt.Sprintf("asleep 0.0 %v off 0 over false", make([]int, edges)))
			wantErr(t, "Tick of one asleep", n.Tick(k), api.OK)
		}
		wantPackets(t, n)
	}
	newNet(t, api.MaxNodes, padded(path(api.MaxNodes), api.MaxNodes, api.MaxEdges)...)
}

func TestP6Wake(t *testing.T) {
	edges := []api.Edge{{A: 0, B: 1, Weight: 30}, {A: 2, B: 0, Weight: 10}, {A: 0, B: 3, Weight: 20}, {A: 3, B: 2, Weight: 5}}
	for _, turn := range []int{0, 1, 2, 3} {
		n := newNet(t, 4, append(slices.Clone(edges[turn:]), edges[:turn]...)...)
		wakes(t, n, 0)
		wantPackets(t, n, "0>2 0 connect0")
		wantLook(t, n, 0, "found 0.0 [1 0 0] off 0 over false")
		for _, k := range []int{1, 2, 3} {
			x, _ := n.Look(k)
			if x.State != api.Asleep || slices.Contains(x.Edges, api.Branch) {
				t.Errorf("Wake(0) makes node %d %+v", k, x)
			}
		}
		wantTree(t, n, api.Edge{A: 2, B: 0, Weight: 10})
		wantSame(t, n, "Wake once more", func() { wakes(t, n, 0, 0) })
		wakes(t, n, 1, 3)
		wantPackets(t, n, "0>2 0 connect0", "1>0 0 connect0", "3>2 0 connect0")
		for _, k := range append([]int{4, 5, 10}, noPlace...) {
			wantSame(t, n, "Wake of none", func() { wantErr(t, "Wake of none", n.Wake(k), api.ErrNode) })
		}
	}
}

// TestP6WakeLater: who has found, and who finds, is awake already, whatever woke it.
func TestP6WakeLater(t *testing.T) {
	n := newNet(t, 3, path(3)...)
	wakes(t, n, 0)
	for range 30 {
		n.Deliver(0)
		for k := range 3 {
			if x, _ := n.Look(k); x.State != api.Asleep {
				wantSame(t, n, "Wake of one awake", func() { wakes(t, n, k) })
			}
		}
	}
	wantPackets(t, n)
	wantSame(t, n, "Wake in the end", func() { wakes(t, n, 0, 1, 2) })
}

func TestP6Single(t *testing.T) {
	n := newNet(t, 1)
	wantLook(t, n, 0, "asleep 0.0 [] off 0 over false")
	wakes(t, n, 0)
	wantLook(t, n, 0, "found 0.0 [] off 0 over true")
	wantSame(t, n, "Wake and Tick of a node without edges", func() {
		wakes(t, n, 0)
		wantErr(t, "Tick", n.Tick(0), api.OK)
		for _, k := range append([]int{0, 1}, noPlace...) {
			wantErr(t, "Deliver", n.Deliver(k), api.ErrPacket)
		}
	})
	wantPackets(t, n)
	wantTree(t, n)
}

// TestP8Example: the two nodes of the document, to the end.
func TestP8Example(t *testing.T) {
	n := pair(t)
	wakes(t, n, 0)
	wantPackets(t, n, "0>1 0 connect0")
	if b := n.Packets()[0].Bytes; !bytes.Equal(b, bytesOf(0, api.Message{Kind: api.Connect})) {
		t.Errorf("the Connect: %v", b)
	}
	delivers(t, n, 0)
	wantPackets(t, n, "1>0 a1", "1>0 0 connect0", "1>0 1 initiate1.7!")
	wantLook(t, n, 1, "found 0.0 [1] off 0 over false")
	delivers(t, n, 0)
	wantPackets(t, n, "1>0 0 connect0", "1>0 1 initiate1.7!")
	delivers(t, n, 0)
	wantPackets(t, n, "1>0 1 initiate1.7!", "0>1 a1", "0>1 1 initiate1.7!")
	delivers(t, n, 0)
	wantPackets(t, n, "0>1 a1", "0>1 1 initiate1.7!", "0>1 a2", "0>1 2 report0")
	wantLook(t, n, 0, "found 1.7 [1] off 0 over false")
	delivers(t, n, 0, 0)
	wantPackets(t, n, "0>1 a2", "0>1 2 report0", "1>0 a2", "1>0 2 report0")
	wantLook(t, n, 1, "found 1.7 [1] off 0 over false")
	delivers(t, n, 0, 0)
	wantPackets(t, n, "1>0 a2", "1>0 2 report0", "1>0 a3")
	wantLook(t, n, 1, "found 1.7 [1] off 0 over true")
	wantLook(t, n, 0, "found 1.7 [1] off 0 over false")
	delivers(t, n, 0, 0)
	wantPackets(t, n, "1>0 a3", "0>1 a3")
	delivers(t, n, 0, 0)
	wantPackets(t, n)
	wantLook(t, n, 0, "found 1.7 [1] off 0 over true")
	wantTree(t, n, api.Edge{A: 0, B: 1, Weight: 7})
	for k := range 2 {
		wantErr(t, "Tick", n.Tick(k), api.OK)
	}
	wantPackets(t, n)
}

func TestP8Errors(t *testing.T) {
	n := pair(t)
	for _, k := range append([]int{0, 1}, noPlace...) {
		wantSame(t, n, "Deliver of none", func() { wantErr(t, "Deliver of none", n.Deliver(k), api.ErrPacket) })
	}
	wakes(t, n, 0, 1)
	for _, k := range append([]int{2, 3}, noPlace...) {
		wantSame(t, n, "Deliver of none", func() { wantErr(t, "Deliver of none", n.Deliver(k), api.ErrPacket) })
	}
	delivers(t, n, 1)
	wantPackets(t, n, "0>1 0 connect0", "0>1 a1", "0>1 1 initiate1.7!")
}

// TestP8Several: one packet lets three messages be taken: one acknowledgement, then what each of them brings about.
func TestP8Several(t *testing.T) {
	n := newNet(t, 3, api.Edge{A: 0, B: 1, Weight: 7}, api.Edge{A: 2, B: 1, Weight: 9})
	wakes(t, n, 0)
	delivers(t, n, 0)
	wantPackets(t, n, "1>0 a1", "1>0 0 connect0", "1>0 1 initiate1.7!")
	wantErr(t, "Again", n.Again(1), api.OK)
	delivers(t, n, 3, 2) // the Initiate is taken at once: node 0 reports
	wantPackets(t, n, "1>0 a1", "1>0 0 connect0", "0>1 a1", "0>1 1 initiate1.7!", "0>1 a2", "0>1 2 report0")
	delivers(t, n, 5) // comes ahead, and waits in the link
	wantPackets(t, n, "1>0 a1", "1>0 0 connect0", "0>1 a1", "0>1 1 initiate1.7!", "0>1 a2", "1>0 a1")
	wantLook(t, n, 1, "found 0.0 [1 0] off 0 over false")
	delivers(t, n, 3) // the Initiate, and the Report behind it, which is put off while node 1 finds
	wantPackets(t, n, "1>0 a1", "1>0 0 connect0", "0>1 a1", "0>1 a2", "1>0 a1", "1>0 a3", "1>2 0 test1.7")
	wantLook(t, n, 1, "find 1.7 [1 0] off 1 over false")

	m := pair(t)
	wakes(t, m, 0)
	delivers(t, m, 0)
	delivers(t, m, 2) // node 1's Initiate comes ahead of its Connect
	wantPackets(t, m, "1>0 a1", "1>0 0 connect0", "0>1 a0")
	wantLook(t, m, 0, "found 0.0 [1] off 0 over false")
	delivers(t, m, 1)
	wantPackets(t, m, "1>0 a1", "0>1 a0", "0>1 a2", "0>1 1 initiate1.7!", "0>1 2 report0")
	delivers(t, m, 4, 3) // likewise: the Report, then the Initiate
	wantPackets(t, m, "1>0 a1", "0>1 a0", "0>1 a2", "1>0 a1", "1>0 a3", "1>0 2 report0")
	wantLook(t, m, 1, "found 1.7 [1] off 0 over true")
}

// deliverBut delivers the first packet that is none of those held back, as long as there is one.
func deliverBut(t *testing.T, n *arbor.Net, held func(p api.Packet) bool) {
	t.Helper()
	for range 10000 {
		k := slices.IndexFunc(n.Packets(), func(p api.Packet) bool { return !held(p) })
		if k < 0 {
			return
		}
		delivers(t, n, k)
	}
	t.Fatalf("there is no end of packets")
}

// TestP8Shown: an acknowledgement lets a message go out that waited for the window.
func TestP8Shown(t *testing.T) {
	// Pairs join, then fours, then all: so node 1 sends node 0 five messages, none of which is acknowledged.
	n := newNet(t, 8, api.Edge{A: 0, B: 1, Weight: 1}, api.Edge{A: 2, B: 3, Weight: 2}, api.Edge{A: 4, B: 5, Weight: 3}, api.Edge{A: 6, B: 7, Weight: 4},
		api.Edge{A: 1, B: 2, Weight: 5}, api.Edge{A: 5, B: 6, Weight: 6}, api.Edge{A: 3, B: 4, Weight: 7})
	wakes(t, n, 0, 1, 2, 3, 4, 5, 6, 7)
	deliverBut(t, n, func(p api.Packet) bool { return p.From == 0 && p.Bytes[0] == 2 })
	wantPackets(t, n, "0>1 a1", "0>1 a2", "0>1 a3", "0>1 a4")
	wantLook(t, n, 0, "found 2.5 [1] off 0 over false")
	wantErr(t, "Tick", n.Tick(1), api.OK)
	wantPackets(t, n, "0>1 a1", "0>1 a2", "0>1 a3", "0>1 a4", "1>0 0 connect0", "1>0 1 initiate1.1!", "1>0 2 report5", "1>0 3 initiate2.5!")
	delivers(t, n, 2) // all below 3 are acknowledged: the message 4 is shown
	wantPackets(t, n, "0>1 a1", "0>1 a2", "0>1 a4", "1>0 0 connect0", "1>0 1 initiate1.1!", "1>0 2 report5", "1>0 3 initiate2.5!", "1>0 4 initiate3.7!")
	delivers(t, n, 1)
	wantErr(t, "Tick", n.Tick(1), api.OK)
	wantPackets(t, n, "0>1 a1", "0>1 a4", "1>0 0 connect0", "1>0 1 initiate1.1!", "1>0 2 report5", "1>0 3 initiate2.5!", "1>0 4 initiate3.7!", "1>0 3 initiate2.5!", "1>0 4 initiate3.7!")
	delivers(t, n, 6)
	wantLook(t, n, 0, "found 3.7 [1] off 0 over false")
}
