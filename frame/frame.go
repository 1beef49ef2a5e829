// Package frame turns frames into bytes, and bytes into frames.
package frame

import "arbor/api"

// The first byte of a frame.
const (
	kindMessage = 1
	kindAck     = 2
)

const (
	maxSeq      = 65535
	messageSize = 10 // bytes of the longer kind of frame
)

// Encode tells a frame's bytes.
func Encode(f api.Frame) ([]byte, api.Errno) {
	if f.Seq < 0 || f.Seq > maxSeq {
		return nil, api.ErrFrame
	}
	if !fits(f) {
		return nil, api.ErrMessage
	}
	b := make([]byte, 0, messageSize)
	if f.Data {
		b = appendTwo(append(b, kindMessage), f.Seq)
		b = appendMessage(b, f.M)
	} else {
		b = appendTwo(append(b, kindAck), f.Seq)
	}
	return appendTwo(b, int(checkNumber(b))), api.OK
}

// fits tells whether the frame has just the message that its kind asks for.
func fits(f api.Frame) bool {
	if f.Data {
		return MayBe(f.M)
	}
	return f.M == api.Message{}
}

func appendMessage(b []byte, m api.Message) []byte {
	finding := byte(0)
	if m.Finding {
		finding = 1
	}
	return appendTwo(append(b, byte(m.Kind), byte(m.Level), finding), m.Name)
}

func appendTwo(b []byte, n int) []byte { return append(b, byte(n>>8), byte(n)) }

// Decode tells the frame of bytes. Only the reader's own panic means that there is none: any other would be a fault of the program, and must not pass for an answer.
func Decode(b []byte) (f api.Frame, e api.Errno) {
	defer func() {
		caught := recover()
		if caught == nil {
			return
		}
		if _, ok := caught.(noFrame); !ok {
			panic(caught)
		}
		f, e = api.Frame{}, api.ErrFrame
	}()
	return read(b), api.OK
}
