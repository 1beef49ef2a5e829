package mesh

import (
	"bytes"
	"slices"

	"arbor/api"
)

// bag is the packets that are on their way, in the order in which they lie there.
type bag []packet

// packet knows that it was spoilt: two spoilt bytes might make another frame of it.
type packet struct {
	api.Packet
	spoilt bool
}

func (b bag) has(k int) bool { return 0 <= k && k < len(b) }

// add lays a packet behind all others; it is lost where there is no room.
func (b *bag) add(p packet) {
	if len(*b) < api.MaxBag {
		*b = append(*b, p)
	}
}

// take takes out the packet at a place, which must be one.
func (b *bag) take(k int) packet {
	p := (*b)[k]
	*b = slices.Delete(*b, k, k+1)
	return p
}

func (b bag) tell() []api.Packet {
	var l []api.Packet
	for _, p := range b {
		l = append(l, p.alike().Packet)
	}
	return l
}

// alike gives the packet with bytes of its own.
func (p packet) alike() packet {
	p.Bytes = bytes.Clone(p.Bytes)
	return p
}

func (p *packet) spoil(at int, with byte) api.Errno {
	if p.spoilt || at < 0 || at >= len(p.Bytes) || with == 0 {
		return api.ErrSpoilt
	}
	p.Bytes[at] ^= with
	p.spoilt = true
	return api.OK
}
