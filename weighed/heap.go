// Package weighed keeps things by their weights, the lightest one at hand.
package weighed

import "container/heap"

// Heap is things with weights. As it is made, it has none.
type Heap[T any] struct{ pile pile[T] }

type thing[T any] struct {
	what   T
	weight int
}

// pile is what container/heap asks for.
type pile[T any] []thing[T]

func (p pile[T]) Len() int           { return len(p) }
func (p pile[T]) Less(i, j int) bool { return p[i].weight < p[j].weight }
func (p pile[T]) Swap(i, j int)      { p[i], p[j] = p[j], p[i] }
func (p *pile[T]) Push(x any)        { *p = append(*p, x.(thing[T])) }

func (p *pile[T]) Pop() any {
	last := len(*p) - 1
	x := (*p)[last]
	*p = (*p)[:last]
	return x
}

// Add puts a thing in.
func (h *Heap[T]) Add(what T, weight int) { heap.Push(&h.pile, thing[T]{what, weight}) }

// Take takes the lightest thing out, if there is one.
func (h *Heap[T]) Take() (what T, ok bool) {
	if len(h.pile) == 0 {
		return what, false
	}
	return heap.Pop(&h.pile).(thing[T]).what, true
}
