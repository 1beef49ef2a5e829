// Package arbor: the lightest tree, found by nodes that know their own edges alone: see DOC.md.
package arbor

import (
	"arbor/api"
	"arbor/frame"
	"arbor/graph"
	"arbor/link"
	"arbor/mesh"
)

// Check tells whether edges are a graph (P3).
func Check(nodes int, edges []api.Edge) api.Errno { return graph.Check(nodes, edges) }

// Encode tells a frame's bytes (P4).
func Encode(f api.Frame) ([]byte, api.Errno) { return frame.Encode(f) }

// Decode tells the frame of bytes (P4).
func Decode(b []byte) (api.Frame, api.Errno) { return frame.Decode(b) }

// End is one end of a link.
type End struct{ link link.End }

// NewEnd gives an end that has sent nothing (P5).
func NewEnd() *End { return &End{} }

// Send sends a message (P5).
func (e *End) Send(m api.Message) api.Errno { return e.link.Send(m) }

// In takes bytes that came, and tells the messages that are taken (P5).
func (e *End) In(b []byte) []api.Message { return e.link.In(b) }

// Tick sends again what is not acknowledged (P5).
func (e *End) Tick() { e.link.Tick() }

// Out tells the frames that went out (P5).
func (e *End) Out() [][]byte { return e.link.Out() }

// Net is nodes, links, and packets on their way.
type Net struct{ mesh mesh.Net }

// New gives a net whose nodes sleep (P6).
func New(nodes int, edges []api.Edge) (*Net, api.Errno) {
	m, e := mesh.New(nodes, edges)
	if e != api.OK {
		return nil, e
	}
	return &Net{m}, api.OK
}

// Wake wakes a node (P6).
func (n *Net) Wake(node int) api.Errno { return n.mesh.Wake(node) }

// Packets tells what is on its way (P7).
func (n *Net) Packets() []api.Packet { return n.mesh.Packets() }

// Deliver hands over a packet (P8).
func (n *Net) Deliver(k int) api.Errno { return n.mesh.Deliver(k) }

// Lose loses a packet (P9).
func (n *Net) Lose(k int) api.Errno { return n.mesh.Lose(k) }

// Again doubles a packet (P9).
func (n *Net) Again(k int) api.Errno { return n.mesh.Again(k) }

// Spoil spoils a byte of a packet (P9).
func (n *Net) Spoil(k, at int, with byte) api.Errno { return n.mesh.Spoil(k, at, with) }

// Tick lets a node send again what is not acknowledged (P10).
func (n *Net) Tick(node int) api.Errno { return n.mesh.Tick(node) }

// Look tells what is known of a node (P11).
func (n *Net) Look(node int) (api.Node, api.Errno) { return n.mesh.Look(node) }

// Tree tells the edges that are branches at either end (P11).
func (n *Net) Tree() []api.Edge { return n.mesh.Tree() }
