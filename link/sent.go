package link

import "arbor/api"

// sent is what an end has sent and the other one has not acknowledged.
type sent struct {
	first   int // the number of the first message of these
	waiting []api.Message
}

// next tells the number of the message that is sent next.
func (s *sent) next() int { return s.first + len(s.waiting) }

// shown tells how many messages are shown: they are the first ones.
func (s *sent) shown() int { return min(len(s.waiting), api.Window) }

func (s *sent) add(m api.Message) { s.waiting = append(s.waiting, m) }

// drop forgets the first n messages. The list is not moved up, as it may be long: its head is let go when it grows anew.
func (s *sent) drop(n int) {
	s.first += n
	s.waiting = s.waiting[n:]
}

func (s *sent) frame(k int) api.Frame {
	return api.Frame{Data: true, Seq: s.first + k, M: s.waiting[k]}
}
