package frame

import "arbor/api"

// noFrame is what the reader panics with as soon as bytes cannot be a frame.
type noFrame struct{}

// reader goes through bytes from the first on.
type reader struct {
	bytes []byte
	at    int
}

// read tells the frame of bytes, or panics with noFrame. It looks at no more bytes than the longest frame has.
func read(b []byte) api.Frame {
	r := &reader{bytes: b}
	f := r.body()
	check := checkNumber(b[:r.at])
	must(r.two() == int(check))
	must(r.at == len(b))
	return f
}

// must panics where bytes are not what a frame's are.
func must(holds bool) {
	if !holds {
		panic(noFrame{})
	}
}

// body reads all that lies ahead of the check number.
func (r *reader) body() api.Frame {
	kind := r.one()
	must(kind == kindMessage || kind == kindAck)
	f := api.Frame{Data: kind == kindMessage, Seq: r.two()}
	if f.Data {
		f.M = r.message()
	}
	return f
}

func (r *reader) message() api.Message {
	var m api.Message
	m.Kind = r.one()
	m.Level = r.one()
	m.Finding = r.flag()
	m.Name = r.two()
	must(MayBe(m))
	return m
}

func (r *reader) one() int {
	must(r.at < len(r.bytes))
	r.at++
	return int(r.bytes[r.at-1])
}

func (r *reader) two() int {
	high := r.one()
	return high<<8 | r.one()
}

func (r *reader) flag() bool {
	n := r.one()
	must(n <= 1)
	return n == 1
}
