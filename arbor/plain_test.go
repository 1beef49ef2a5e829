package arbor_test

import (
	"bytes"
	"fmt"
	"math/rand"
	"reflect"
	"slices"
	"testing"

	"arbor/api"
	"arbor/arbor"
)

// heaviest is above all weights.
const heaviest = 1 << 20

// plainNet is a net as the document tells it, word by word; its nodes reach one another's places freely.
type plainNet struct {
	edges   []api.Edge
	nodes   []*plainNode
	packets []plainPacket
}

type plainPacket struct {
	from, to int
	b        []byte
	spoilt   bool
}

// plainNode has its neighbours by rising weight; edges are named by the neighbour at their other end, none is -1.
type plainNode struct {
	number             int
	neighbours         []int
	weight, edge       map[int]int
	end                map[int]*plainEnd
	state, level, name int
	in, best, tested   int
	bestWeight, count  int
	over               bool
	off                []plainOff
}

type plainOff struct {
	j int
	m api.Message
}

func newPlainNet(nodes int, edges []api.Edge) *plainNet {
	n := &plainNet{edges: slices.Clone(edges)}
	for k := range nodes {
		x := &plainNode{number: k, weight: map[int]int{}, edge: map[int]int{}, end: map[int]*plainEnd{}, in: -1, best: -1, tested: -1, bestWeight: heaviest}
		for w := range 1001 {
			for _, e := range edges {
				if e.Weight != w || e.A != k && e.B != k {
					continue
				}
				j := e.A
				if j == k {
					j = e.B
				}
				x.neighbours = append(x.neighbours, j)
				x.weight[j] = w
				x.end[j] = &plainEnd{there: map[int]api.Message{}}
			}
		}
		n.nodes = append(n.nodes, x)
	}
	return n
}

// flush puts on its way what went out at an end.
func (n *plainNet) flush(x *plainNode, j int) {
	for _, b := range x.end[j].out {
		if len(n.packets) < 300 {
			n.packets = append(n.packets, plainPacket{from: x.number, to: j, b: b})
		}
	}
	x.end[j].out = nil
}

func (n *plainNet) send(x *plainNode, j int, m api.Message) {
	x.end[j].send(m)
	n.flush(x, j)
}

func (n *plainNet) wake(x *plainNode) {
	if x.state != api.Asleep {
		return
	}
	x.level, x.state, x.count = 0, api.Found, 0
	if len(x.neighbours) == 0 {
		x.over = true
		return
	}
	x.edge[x.neighbours[0]] = api.Branch
	n.send(x, x.neighbours[0], api.Message{Kind: api.Connect})
}

func (n *plainNet) tests(x *plainNode) {
	x.tested = -1
	for _, j := range x.neighbours {
		if x.edge[j] == api.Basic {
			x.tested = j
			n.send(x, j, api.Message{Kind: api.Test, Level: x.level, Name: x.name})
			return
		}
	}
	n.reports(x)
}

func (n *plainNet) reports(x *plainNode) {
	if x.count != 0 || x.tested != -1 {
		return
	}
	x.state = api.Found
	w := x.bestWeight
	if w == heaviest {
		w = 0
	}
	n.send(x, x.in, api.Message{Kind: api.Report, Name: w})
}

func (n *plainNet) changesTheRoot(x *plainNode) {
	if x.edge[x.best] == api.Branch {
		n.send(x, x.best, api.Message{Kind: api.Root})
	} else {
		n.send(x, x.best, api.Message{Kind: api.Connect, Level: x.level})
		x.edge[x.best] = api.Branch
	}
}

// does does a message and tells true, or tells that it is put off.
func (n *plainNet) does(x *plainNode, j int, m api.Message) bool {
	switch m.Kind {
	case api.Connect:
		n.wake(x)
		if m.Level < x.level {
			x.edge[j] = api.Branch
			n.send(x, j, api.Message{Kind: api.Initiate, Level: x.level, Name: x.name, Finding: x.state == api.Find})
			if x.state == api.Find {
				x.count++
			}
		} else if x.edge[j] == api.Basic {
			return false
		} else {
			n.send(x, j, api.Message{Kind: api.Initiate, Level: x.level + 1, Name: x.weight[j], Finding: true})
		}
	case api.Initiate:
		n.initiated(x, j, m)
	case api.Test:
		n.wake(x)
		if m.Level > x.level {
			return false
		}
		n.tested(x, j, m)
	case api.Accept:
		x.tested = -1
		if x.weight[j] < x.bestWeight {
			x.best, x.bestWeight = j, x.weight[j]
		}
		n.reports(x)
	case api.Reject:
		if x.edge[j] == api.Basic {
			x.edge[j] = api.Rejected
		}
		n.tests(x)
	case api.Report:
		if j == x.in && x.state == api.Find {
			return false
		}
		n.reported(x, j, m)
	case api.Root:
		n.changesTheRoot(x)
	}
	return true
}

func (n *plainNet) initiated(x *plainNode, j int, m api.Message) {
	x.level, x.name, x.in, x.best, x.bestWeight = m.Level, m.Name, j, -1, heaviest
	x.state = api.Found
	if m.Finding {
		x.state = api.Find
	}
	for _, i := range x.neighbours {
		if i != j && x.edge[i] == api.Branch {
			n.send(x, i, m)
			if m.Finding {
				x.count++
			}
		}
	}
	if m.Finding {
		n.tests(x)
	}
}

func (n *plainNet) tested(x *plainNode, j int, m api.Message) {
	if m.Name != x.name {
		n.send(x, j, api.Message{Kind: api.Accept})
		return
	}
	if x.edge[j] == api.Basic {
		x.edge[j] = api.Rejected
	}
	if x.tested != j {
		n.send(x, j, api.Message{Kind: api.Reject})
	} else {
		n.tests(x)
	}
}

func (n *plainNet) reported(x *plainNode, j int, m api.Message) {
	w := m.Name
	if w == 0 {
		w = heaviest
	}
	switch {
	case j != x.in:
		x.count--
		if w < x.bestWeight {
			x.best, x.bestWeight = j, w
		}
		n.reports(x)
	case w > x.bestWeight:
		n.changesTheRoot(x)
	case w == heaviest && x.bestWeight == heaviest:
		x.over = true
	}
}

func (n *plainNet) takes(x *plainNode, j int, m api.Message) {
	if !n.does(x, j, m) {
		x.off = append(x.off, plainOff{j, m})
		return
	}
again:
	for i, o := range x.off {
		if n.does(x, o.j, o.m) {
			x.off = append(slices.Clone(x.off[:i]), x.off[i+1:]...)
			goto again
		}
	}
}

func (n *plainNet) deliver(k int) {
	p := n.packets[k]
	n.packets = append(slices.Clone(n.packets[:k]), n.packets[k+1:]...)
	x := n.nodes[p.to]
	f, e := arbor.Decode(p.b)
	if e != api.OK {
		return
	}
	var taken []api.Message
	if f.Data {
		taken = x.end[p.from].message(f.Seq, f.M)
	} else {
		x.end[p.from].ack(f.Seq)
	}
	n.flush(x, p.from)
	for _, m := range taken {
		n.takes(x, p.from, m)
	}
}

// again, spoil: as the calls of these names, of a packet that there is.
func (n *plainNet) again(k int) api.Errno {
	if len(n.packets) < 300 {
		p := n.packets[k]
		p.b = bytes.Clone(p.b)
		n.packets = append(n.packets, p)
	}
	return api.OK
}

func (n *plainNet) spoil(k, at int, with byte) api.Errno {
	p := &n.packets[k]
	if p.spoilt || at < 0 || at >= len(p.b) || with == 0 {
		return api.ErrSpoilt
	}
	p.b[at] ^= with
	p.spoilt = true
	return api.OK
}

func (n *plainNet) tick(x *plainNode) {
	for _, j := range x.neighbours {
		x.end[j].tick()
		n.flush(x, j)
	}
}

// state is what is to be seen of the net.
func (n *plainNet) state() state {
	var s state
	for _, p := range n.packets {
		s.packets = append(s.packets, api.Packet{From: p.from, To: p.to, Bytes: p.b})
	}
	for _, x := range n.nodes {
		l := api.Node{State: x.state, Level: x.level, Name: x.name, Over: x.over, Off: len(x.off)}
		for _, j := range x.neighbours {
			l.Edges = append(l.Edges, x.edge[j])
		}
		s.nodes = append(s.nodes, l)
	}
	for w := range 1001 {
		for _, e := range n.edges {
			if e.Weight == w && (n.nodes[e.A].edge[e.B] == api.Branch || n.nodes[e.B].edge[e.A] == api.Branch) {
				s.tree = append(s.tree, e)
			}
		}
	}
	return s
}

// both does the same with a net and a plain one, and tells what they answer.
func both(r *rand.Rand, n *arbor.Net, p *plainNet) (what string, got, want api.Errno) {
	k, x := r.Intn(3+len(p.packets))-1, r.Intn(3+len(p.nodes))-1
	there, isNode := k >= 0 && k < len(p.packets), x >= 0 && x < len(p.nodes)
	want = api.ErrPacket
	switch r.Intn(24) {
	case 0:
		if want = api.ErrNode; isNode {
			p.wake(p.nodes[x])
			want = api.OK
		}
		return fmt.Sprintf("Wake(%d)", x), n.Wake(x), want
	case 1, 2:
		if want = api.ErrNode; isNode {
			p.tick(p.nodes[x])
			want = api.OK
		}
		return fmt.Sprintf("Tick(%d)", x), n.Tick(x), want
	case 3, 4, 5:
		if there {
			p.packets = slices.Delete(p.packets, k, k+1)
			want = api.OK
		}
		return fmt.Sprintf("Lose(%d)", k), n.Lose(k), want
	case 6, 7:
		if there {
			want = p.again(k)
		}
		return fmt.Sprintf("Again(%d)", k), n.Again(k), want
	case 8, 9:
		at, with := r.Intn(13)-1, byte(r.Intn(4))
		if there {
			want = p.spoil(k, at, with)
		}
		return fmt.Sprintf("Spoil(%d, %d, %d)", k, at, with), n.Spoil(k, at, with), want
	}
	if there {
		p.deliver(k)
		want = api.OK
	}
	return fmt.Sprintf("Deliver(%d)", k), n.Deliver(k), want
}

// TestDrawnNets holds nets against plain ones (P6 to P11), call by call.
func TestDrawnNets(t *testing.T) {
	for seed := range int64(250) {
		r := rand.New(rand.NewSource(seed))
		nodes, edges := drawnGraph(r)
		n, p := newNet(t, nodes, edges...), newPlainNet(nodes, edges)
		k := r.Intn(nodes)
		wakes(t, n, k)
		p.wake(p.nodes[k])
		for step := range 400 {
			what, got, want := both(r, n, p)
			if got != want {
				t.Fatalf("seed %d, step %d: %s = %d, want %d", seed, step, what, got, want)
			}
			if x, y := stateOf(n), p.state(); !reflect.DeepEqual(x, y) {
				t.Fatalf("seed %d, step %d: %s of %v makes\n%s\n%+v, want\n%s\n%+v", seed, step, what, edges, packetWords(x.packets), x.nodes, packetWords(y.packets), y.nodes)
			}
		}
	}
}
