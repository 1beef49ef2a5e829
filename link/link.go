// Package link carries messages either way between two ends, in order and once each, over frames that may be lost, doubled, spoilt or late.
package link

import (
	"arbor/api"
	"arbor/frame"
)

// numbers is how many messages an end can number: a frame has two bytes for it.
const numbers = 65536

// End is one of the two ends of a link. As it is made, it has sent nothing.
type End struct {
	sent sent
	came came
	out  [][]byte
}

// Send sends a message.
func (e *End) Send(m api.Message) api.Errno {
	if !frame.MayBe(m) {
		return api.ErrMessage
	}
	if e.sent.next() == numbers {
		return api.ErrSize
	}
	shown := e.sent.shown()
	e.sent.add(m)
	e.showFrom(shown)
	return api.OK
}

// In takes bytes that came, and tells the messages that are taken.
func (e *End) In(b []byte) []api.Message {
	f, err := frame.Decode(b)
	if err != api.OK {
		return nil
	}
	if f.Data {
		return e.messageCame(f)
	}
	e.acknowledged(f.Seq)
	return nil
}

// Tick lets a frame go out again for each message that is shown.
func (e *End) Tick() { e.showFrom(0) }

// Out tells the bytes of the frames that went out since it was called last. They are handed over, not copied: nothing of them is kept.
func (e *End) Out() [][]byte {
	out := e.out
	e.out = nil
	return out
}

// messageCame acknowledges every frame of a message, old ones and those too far ahead too: the acknowledgement sent before may be lost.
func (e *End) messageCame(f api.Frame) []api.Message {
	e.came.keep(f.Seq, f.M)
	taken := e.came.take()
	if e.came.awaited < numbers {
		e.goesOut(api.Frame{Seq: e.came.awaited})
	}
	return taken
}

// acknowledged is told the number that the other end awaits.
func (e *End) acknowledged(awaited int) {
	shown := e.sent.shown()
	if n := awaited - e.sent.first; 0 < n && n <= shown {
		e.sent.drop(n)
		e.showFrom(shown - n)
	}
}

// showFrom lets a frame go out for each message that is shown, from a place among them on.
func (e *End) showFrom(place int) {
	for k := place; k < e.sent.shown(); k++ {
		e.goesOut(e.sent.frame(k))
	}
}

// goesOut asks for no error: Send and Decode let no message in that may not be, and numbers stay below 65536.
func (e *End) goesOut(f api.Frame) {
	b, _ := frame.Encode(f)
	e.out = append(e.out, b)
}
