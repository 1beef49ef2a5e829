package arbor_test

import (
	"bytes"
	"math"
	"testing"

	"arbor/api"
	"arbor/arbor"
)

// summed puts behind bytes their check number, reckoned bit by bit as the document tells it.
func summed(b ...byte) []byte {
	n := 65535
	for _, x := range b {
		n ^= 256 * int(x)
		for range 8 {
			high := n >= 32768
			n = n * 2 % 65536
			if high {
				n ^= 4129
			}
		}
	}
	return append(bytes.Clone(b), byte(n/256), byte(n%256))
}

// rule is what the document lets a message of a kind have.
type rule struct {
	topLevel, lowName, topName int
	finding                    bool
}

var rules = map[int]rule{
	1: {topLevel: 9},
	2: {topLevel: 9, lowName: 1, topName: 1000, finding: true},
	3: {topLevel: 9, topName: 1000},
	4: {},
	5: {},
	6: {topName: 1000},
	7: {},
}

func lawful(m api.Message) bool {
	r, known := rules[m.Kind]
	return known && m.Level >= 0 && m.Level <= r.topLevel && m.Name >= r.lowName && m.Name <= r.topName && (r.finding || !m.Finding)
}

// bytesOf are the bytes of a message's frame, whether or not the message may be.
func bytesOf(seq int, m api.Message) []byte {
	finding := byte(0)
	if m.Finding {
		finding = 1
	}
	return summed(1, byte(seq>>8), byte(seq), byte(m.Kind), byte(m.Level), finding, byte(m.Name>>8), byte(m.Name))
}

func wantEncoded(t *testing.T, f api.Frame, want []byte) {
	t.Helper()
	if b, e := arbor.Encode(f); e != api.OK || !bytes.Equal(b, want) {
		t.Fatalf("Encode(%+v) = %v, %d, want %v", f, b, e, want)
	}
	if g, e := arbor.Decode(want); e != api.OK || g != f {
		t.Fatalf("Decode(%v) = %+v, %d, want %+v", want, g, e, f)
	}
}

func wantRefused(t *testing.T, f api.Frame, want api.Errno) {
	t.Helper()
	if b, e := arbor.Encode(f); e != want || b != nil {
		t.Fatalf("Encode(%+v) = %v, %d, want %d", f, b, e, want)
	}
}

func wantNoFrame(t *testing.T, b []byte) {
	t.Helper()
	if f, e := arbor.Decode(b); e != api.ErrFrame || f != (api.Frame{}) {
		t.Fatalf("Decode(%.20v) = %+v, %d, want ErrFrame", b, f, e)
	}
}

// someFrames has frames of every kind.
func someFrames() []api.Frame {
	l := []api.Frame{{}, {Seq: 1}, {Seq: 65535}}
	for _, m := range []api.Message{
		{Kind: api.Connect}, {Kind: api.Connect, Level: 9},
		{Kind: api.Initiate, Level: 1, Name: 7, Finding: true}, {Kind: api.Initiate, Name: 1}, {Kind: api.Initiate, Level: 9, Name: 1000, Finding: true},
		{Kind: api.Test}, {Kind: api.Test, Level: 9, Name: 1000},
		{Kind: api.Accept}, {Kind: api.Reject},
		{Kind: api.Report}, {Kind: api.Report, Name: 1000},
		{Kind: api.Root},
	} {
		l = append(l, api.Frame{Data: true, M: m}, api.Frame{Data: true, Seq: 258, M: m}, api.Frame{Data: true, Seq: 65535, M: m})
	}
	return l
}

func TestP4Examples(t *testing.T) {
	if b := summed([]byte("123456789")...); int(b[9])*256+int(b[10]) != 10673 {
		t.Fatalf("the test's own check number: %v", b)
	}
	wantEncoded(t, api.Frame{}, []byte{2, 0, 0, 162, 252})
	wantEncoded(t, api.Frame{Data: true, Seq: 1, M: api.Message{Kind: api.Connect}}, []byte{1, 0, 1, 1, 0, 0, 0, 0, 153, 28})
}

// TestP4Seq has every number there is, and some that there are not.
func TestP4Seq(t *testing.T) {
	m := api.Message{Kind: api.Initiate, Level: 3, Name: 515, Finding: true}
	for seq := range 65536 {
		wantEncoded(t, api.Frame{Seq: seq}, summed(2, byte(seq>>8), byte(seq)))
		wantEncoded(t, api.Frame{Data: true, Seq: seq, M: m}, bytesOf(seq, m))
	}
	for _, seq := range []int{-1, 65536, 65537, -65536, 1 << 32, math.MinInt, math.MaxInt} {
		wantRefused(t, api.Frame{Seq: seq}, api.ErrFrame)
		wantRefused(t, api.Frame{Data: true, Seq: seq, M: m}, api.ErrFrame)
		// A wrong message beside a wrong number: the number is named first.
		wantRefused(t, api.Frame{Data: true, Seq: seq}, api.ErrFrame)
		wantRefused(t, api.Frame{Seq: seq, M: m}, api.ErrFrame)
	}
}

// TestP4Messages goes through kinds, levels and names in and about their bounds; some would be right if their higher bits were cut off.
func TestP4Messages(t *testing.T) {
	odd := []int{-256, 256, 257, 1 << 32, 1<<32 + 1, math.MinInt, math.MaxInt}
	kinds := append([]int{-1, 0, 1, 2, 3, 4, 5, 6, 7, 8, 9, 255}, odd...)
	levels := append([]int{-1, 0, 1, 2, 3, 4, 5, 6, 7, 8, 9, 10, 11, 255}, odd...)
	names := append([]int{-1, 0, 1, 2, 255, 256, 512, 999, 1000, 1001, 1024, 65535, 65536, 65537}, odd...)
	for _, kind := range kinds {
		for _, level := range levels {
			for _, name := range names {
				for _, finding := range []bool{false, true} {
					m := api.Message{Kind: kind, Level: level, Name: name, Finding: finding}
					if lawful(m) {
						wantEncoded(t, api.Frame{Data: true, Seq: 4660, M: m}, bytesOf(4660, m))
					} else {
						wantRefused(t, api.Frame{Data: true, Seq: 4660, M: m}, api.ErrMessage)
					}
					if m != (api.Message{}) {
						wantRefused(t, api.Frame{Seq: 4660, M: m}, api.ErrMessage)
					}
				}
			}
		}
	}
}

// TestP4Names has every name of every kind, written and read.
func TestP4Names(t *testing.T) {
	for kind := range rules {
		for name := range 65536 {
			m := api.Message{Kind: kind, Name: name}
			if lawful(m) {
				wantEncoded(t, api.Frame{Data: true, M: m}, bytesOf(0, m))
			} else {
				wantRefused(t, api.Frame{Data: true, M: m}, api.ErrMessage)
				wantNoFrame(t, bytesOf(0, m))
			}
		}
	}
}

// TestP4WrongBytes has bytes that are no frame though their check number is right.
func TestP4WrongBytes(t *testing.T) {
	for x := range 256 {
		b := byte(x)
		if b != 1 {
			wantNoFrame(t, summed(b, 0, 0, 1, 0, 0, 0, 0))
		}
		if b != 2 {
			wantNoFrame(t, summed(b, 0, 0))
		}
		if b < 1 || b > 7 {
			wantNoFrame(t, summed(1, 0, 0, b, 0, 0, 0, 0))
			wantNoFrame(t, summed(1, 0, 0, b, 0, 0, 0, 1))
		}
		for kind, r := range rules {
			if x > r.topLevel {
				wantNoFrame(t, summed(1, 0, 0, byte(kind), b, 0, 0, byte(r.lowName)))
			}
			if b > 1 || b == 1 && !r.finding {
				wantNoFrame(t, summed(1, 0, 0, byte(kind), 0, b, 0, byte(r.lowName)))
			}
		}
	}
	for n := range 20 {
		for _, kind := range []byte{1, 2} {
			b := make([]byte, n)
			copy(b, []byte{kind, 0, 0, api.Connect})
			if n != 8 && kind == 1 || n != 3 && kind == 2 {
				wantNoFrame(t, summed(b...))
			}
		}
	}
	wantNoFrame(t, nil)
	wantNoFrame(t, []byte{})
	wantNoFrame(t, make([]byte, 10000000))
}

// TestP4Spoilt: a frame of which one byte is another one is no frame, nor one that was cut, or that more follows.
func TestP4Spoilt(t *testing.T) {
	for _, f := range someFrames() {
		b, e := arbor.Encode(f)
		if e != api.OK {
			t.Fatalf("Encode(%+v) = %d", f, e)
		}
		for at := range b {
			for x := 1; x < 256; x++ {
				spoilt := bytes.Clone(b)
				spoilt[at] ^= byte(x)
				wantNoFrame(t, spoilt)
			}
			wantNoFrame(t, b[:at])
			wantNoFrame(t, b[at+1:])
		}
		wantNoFrame(t, append(bytes.Clone(b), 0))
		wantNoFrame(t, append([]byte{0}, b...))
		wantNoFrame(t, append(bytes.Clone(b), b...))
		wantNoFrame(t, summed(b...))
	}
}

// TestP2Frames: Decode leaves its bytes and what lies behind them as they are; what Encode tells shares nothing.
func TestP2Frames(t *testing.T) {
	for _, f := range someFrames() {
		b, _ := arbor.Encode(f)
		want := bytes.Clone(b)
		n := len(b)
		b = append(b, 9, 9, 9)
		kept := bytes.Clone(b)
		if g, e := arbor.Decode(b[:n]); g != f || e != api.OK || !bytes.Equal(b, kept) {
			t.Errorf("Decode(%v) = %+v, %d, and leaves %v", want, g, e, b)
		}
		wantNoFrame(t, b)
		if !bytes.Equal(b, kept) {
			t.Errorf("Decode wrote into %v: %v", kept, b)
		}

		first, _ := arbor.Encode(f)
		second, _ := arbor.Encode(f)
		room := first[:cap(first)]
		for i := range room {
			room[i] = 77
		}
		third, _ := arbor.Encode(f)
		if !bytes.Equal(second, want) || !bytes.Equal(third, want) {
			t.Errorf("Encode(%+v) tells %v and %v once an earlier answer was written into", f, second, third)
		}
	}
}
