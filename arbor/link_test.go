package arbor_test

import (
	"bytes"
	"math/rand"
	"slices"
	"testing"

	"arbor/api"
	"arbor/arbor"
)

// plainEnd is an end as the document tells it, without a thought to how much it keeps.
type plainEnd struct {
	sent         []api.Message
	acknowledged int // all below are
	shownOnce    int // all below went out
	awaited      int
	there        map[int]api.Message
	out          [][]byte
}

func (p *plainEnd) isShown(n int) bool {
	return p.acknowledged <= n && n < p.acknowledged+4 && n < len(p.sent)
}

func (p *plainEnd) show() {
	for n := range p.sent {
		if n >= p.shownOnce && p.isShown(n) {
			p.out = append(p.out, bytesOf(n, p.sent[n]))
			p.shownOnce = n + 1
		}
	}
}

func (p *plainEnd) send(m api.Message) {
	p.sent = append(p.sent, m)
	p.show()
}

func (p *plainEnd) tick() {
	for n := range p.sent {
		if p.isShown(n) {
			p.out = append(p.out, bytesOf(n, p.sent[n]))
		}
	}
}

func (p *plainEnd) ack(n int) {
	if n > p.acknowledged && p.isShown(n-1) {
		p.acknowledged = n
		p.show()
	}
}

func (p *plainEnd) message(n int, m api.Message) []api.Message {
	if _, ok := p.there[n]; !ok && n >= p.awaited && n <= p.awaited+3 {
		p.there[n] = m
	}
	var taken []api.Message
	for {
		m, ok := p.there[p.awaited]
		if !ok {
			break
		}
		taken = append(taken, m)
		p.awaited++
	}
	p.out = append(p.out, ackOf(p.awaited))
	return taken
}

// drawn is some message that may be.
func drawn(r *rand.Rand) api.Message {
	for {
		m := api.Message{Kind: 1 + r.Intn(7), Level: r.Intn(2) * r.Intn(10), Name: r.Intn(2) * r.Intn(1001), Finding: r.Intn(2) == 0}
		if lawful(m) {
			return m
		}
	}
}

// TestP5Drawn holds an end against the plain one, whatever comes: also frames that no end would send.
func TestP5Drawn(t *testing.T) {
	for seed := range int64(400) {
		r := rand.New(rand.NewSource(seed))
		e, p := arbor.NewEnd(), &plainEnd{there: map[int]api.Message{}}
		for step := range 150 {
			var got, want []api.Message
			switch r.Intn(8) {
			case 0, 1:
				m := drawn(r)
				wantSent(t, e, m, api.OK)
				p.send(m)
			case 2:
				wantSent(t, e, api.Message{Kind: r.Intn(2) * 8}, api.ErrMessage)
			case 3:
				e.Tick()
				p.tick()
			case 4, 5:
				n := max(0, p.acknowledged+r.Intn(9)-2)
				got = e.In(ackOf(n))
				p.ack(n)
			default:
				n, m := max(0, p.awaited+r.Intn(9)-3), drawn(r)
				got, want = e.In(bytesOf(n, m)), p.message(n, m)
			}
			if !slices.Equal(got, want) {
				t.Fatalf("seed %d, step %d: taken is %+v, want %+v", seed, step, got, want)
			}
			if r.Intn(3) == 0 {
				out := e.Out()
				if !slices.EqualFunc(out, p.out, bytes.Equal) {
					t.Fatalf("seed %d, step %d: Out: %v, want %v", seed, step, out, p.out)
				}
				p.out = nil
			}
		}
	}
}

// pipe is one way of a link: frames that lie there, and what has befallen them.
type pipe struct {
	from, to *arbor.End
	lying    []parcel
	told     []api.Message // what the one end was told to send
	taken    []api.Message // by the other one
	fates    map[string]int
	last     int // the latest parcel that came
	count    int
}

// parcel is a frame that lies in a pipe, the how many-th one that was put there.
type parcel struct {
	b      []byte
	number int
	spoilt bool
}

func newPipe(from, to *arbor.End) *pipe {
	return &pipe{from: from, to: to, fates: map[string]int{}}
}

// fill puts into the pipe what went out; what it has no room for is lost.
func (p *pipe) fill() {
	for _, b := range p.from.Out() {
		p.count++
		if len(p.lying) < 100 {
			p.lying = append(p.lying, parcel{b: b, number: p.count})
		}
	}
}

func (p *pipe) send(t *testing.T, m api.Message) {
	t.Helper()
	wantSent(t, p.from, m, api.OK)
	p.told = append(p.told, m)
}

// come lets the frame at a place come to the other end: taken is always the beginning of what was told.
func (p *pipe) come(t *testing.T, k int) {
	t.Helper()
	if p.lying[k].number < p.last {
		p.fates["late"]++
	}
	p.last = max(p.last, p.lying[k].number)
	p.taken = append(p.taken, p.to.In(p.lying[k].b)...)
	p.lying = slices.Delete(p.lying, k, k+1)
	if n := len(p.taken); n > len(p.told) || !slices.Equal(p.taken, p.told[:n]) {
		t.Fatalf("taken is %+v, told was %+v", p.taken, p.told)
	}
}

// befall does something to some frame of the pipe. A frame is spoilt at one byte alone, so that it is no frame any more.
func (p *pipe) befall(t *testing.T, r *rand.Rand) {
	t.Helper()
	if len(p.lying) == 0 {
		return
	}
	k := r.Intn(len(p.lying))
	x := p.lying[k]
	switch r.Intn(6) {
	case 0:
		p.lying = slices.Delete(p.lying, k, k+1)
		p.fates["lost"]++
	case 1:
		x.b = bytes.Clone(x.b)
		p.lying = append(p.lying, x)
		p.fates["doubled"]++
	case 2:
		if !x.spoilt {
			x.b[r.Intn(len(x.b))] ^= byte(1 + r.Intn(255))
			p.lying[k].spoilt = true
			p.fates["spoilt"]++
		}
	default:
		p.come(t, k)
	}
}

// TestP12Links: frames are lost, doubled, spoilt and late, both ways, from the first to the last; yet all is taken, in order, once each.
func TestP12Links(t *testing.T) {
	for seed := range int64(60) {
		r := rand.New(rand.NewSource(seed))
		a, b := arbor.NewEnd(), arbor.NewEnd()
		up, down := newPipe(a, b), newPipe(b, a)
		ways := []*pipe{up, down}
		for step := 0; ; step++ {
			if step == 20000 {
				t.Fatalf("seed %d: of %d and %d messages %d and %d were taken", seed, len(up.told), len(down.told), len(up.taken), len(down.taken))
			}
			p := ways[r.Intn(2)]
			if step < 600 && r.Intn(6) == 0 {
				p.send(t, drawn(r))
			}
			if r.Intn(12) == 0 {
				p.from.Tick()
			}
			p.befall(t, r)
			up.fill()
			down.fill()
			if step >= 600 && len(up.taken) == len(up.told) && len(down.taken) == len(down.told) {
				break
			}
		}
		for _, p := range ways {
			for _, fate := range []string{"lost", "doubled", "spoilt", "late"} {
				if p.fates[fate] == 0 {
					t.Errorf("seed %d: no frame was %s", seed, fate)
				}
			}
			if len(p.told) < 20 {
				t.Errorf("seed %d: only %d messages were told", seed, len(p.told))
			}
		}
	}
}

// TestP12Old: all frames that ever went out come once more, in both orders, when all was taken: nothing is taken again.
func TestP12Old(t *testing.T) {
	a, b := arbor.NewEnd(), arbor.NewEnd()
	up, down := newPipe(a, b), newPipe(b, a)
	var old [][]byte
	for n := range 300 {
		up.send(t, report(n))
		up.fill()
		for len(up.lying) > 0 {
			old = append(old, bytes.Clone(up.lying[0].b))
			up.come(t, 0)
		}
		down.fill()
		for len(down.lying) > 0 {
			old = append(old, bytes.Clone(down.lying[0].b))
			down.come(t, 0)
		}
	}
	if len(up.taken) != 300 || len(old) != 600 {
		t.Fatalf("%d messages were taken, by %d frames", len(up.taken), len(old))
	}
	for range 2 {
		for _, f := range old {
			if f[0] == 1 {
				wantTaken(t, b, f)
				wantOut(t, b, "a300")
			} else {
				wantTaken(t, a, f)
				wantOut(t, a, "")
			}
		}
		slices.Reverse(old)
	}
}
