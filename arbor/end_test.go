package arbor_test

import (
	"bytes"
	"math"
	"slices"
	"strconv"
	"strings"
	"testing"

	"arbor/api"
	"arbor/arbor"
)

// report is a message that tells its number (from 0 to 1000).
func report(n int) api.Message { return api.Message{Kind: api.Report, Name: n % 1001} }

func ackOf(seq int) []byte { return summed(2, byte(seq>>8), byte(seq)) }

func reportOf(seq int) []byte { return bytesOf(seq, report(seq)) }

// told writes frames down: the number of a report, m and the number of another message, a and the number of an acknowledgement.
func told(frames [][]byte) string {
	var l []string
	for _, b := range frames {
		f, e := arbor.Decode(b)
		seq := strconv.Itoa(f.Seq)
		switch {
		case e != api.OK:
			l = append(l, "?")
		case !f.Data:
			l = append(l, "a"+seq)
		case f.M == report(f.Seq):
			l = append(l, seq)
		default:
			l = append(l, "m"+seq)
		}
	}
	return strings.Join(l, " ")
}

func wantOut(t *testing.T, e *arbor.End, want string) {
	t.Helper()
	if got := told(e.Out()); got != want {
		t.Fatalf("Out: %q, want %q", got, want)
	}
}

// wantTaken: In takes just these reports.
func wantTaken(t *testing.T, e *arbor.End, b []byte, numbers ...int) {
	t.Helper()
	var want []api.Message
	for _, n := range numbers {
		want = append(want, report(n))
	}
	if got := e.In(b); !slices.Equal(got, want) {
		t.Fatalf("In(%v) takes %+v, want %+v", b, got, want)
	}
}

func wantSent(t *testing.T, e *arbor.End, m api.Message, want api.Errno) {
	t.Helper()
	if got := e.Send(m); got != want {
		t.Fatalf("Send(%+v) = %d, want %d", m, got, want)
	}
}

// sender is an end that has sent so many reports, of which the first ones were acknowledged, and whose frames were asked for.
func sender(t *testing.T, sent, acknowledged int) *arbor.End {
	t.Helper()
	e := arbor.NewEnd()
	for n := range sent {
		wantSent(t, e, report(n), api.OK)
	}
	for n := 1; n <= acknowledged; n++ {
		wantTaken(t, e, ackOf(n))
	}
	e.Out()
	return e
}

// taker is an end that has taken so many reports.
func taker(t *testing.T, taken int) *arbor.End {
	t.Helper()
	e := arbor.NewEnd()
	for n := range taken {
		wantTaken(t, e, reportOf(n), n)
	}
	e.Out()
	return e
}

func TestP5NewEnd(t *testing.T) {
	e := arbor.NewEnd()
	wantOut(t, e, "")
	e.Tick()
	for _, seq := range []int{0, 1, 2, 65535} {
		wantTaken(t, e, ackOf(seq))
	}
	wantOut(t, e, "")
	wantSent(t, e, report(0), api.OK)
	wantOut(t, e, "0")
	wantTaken(t, e, reportOf(0), 0)
	wantOut(t, e, "a1")
}

// TestP5SendMessages: each message that may be goes out as it was sent; one that may not be changes nothing, and takes no number.
func TestP5SendMessages(t *testing.T) {
	odd := []int{-1, 256, 257, 1 << 32, math.MinInt, math.MaxInt}
	e := arbor.NewEnd()
	sent := 0
	for _, kind := range append([]int{0, 1, 2, 3, 4, 5, 6, 7, 8}, odd...) {
		for _, level := range append([]int{0, 1, 9, 10}, odd...) {
			for _, name := range append([]int{0, 1, 1000, 1001, 65536}, odd...) {
				for _, finding := range []bool{false, true} {
					m := api.Message{Kind: kind, Level: level, Name: name, Finding: finding}
					if !lawful(m) {
						wantSent(t, e, m, api.ErrMessage)
						wantOut(t, e, "")
						continue
					}
					wantSent(t, e, m, api.OK)
					if out := e.Out(); len(out) != 1 || !bytes.Equal(out[0], bytesOf(sent, m)) {
						t.Fatalf("Send(%+v): out goes %v, want %v", m, out, bytesOf(sent, m))
					}
					sent++
					wantTaken(t, e, ackOf(sent))
				}
			}
		}
	}
	e.Tick()
	wantOut(t, e, "")
}

// TestP5Shown: Window messages are shown and no more; Out tells each frame once, Tick shows the same again.
func TestP5Shown(t *testing.T) {
	e := arbor.NewEnd()
	shown := ""
	for n := range 10 {
		wantSent(t, e, report(n), api.OK)
		if n < api.Window {
			wantOut(t, e, strconv.Itoa(n))
			shown = strings.TrimSpace(shown + " " + strconv.Itoa(n))
		}
		wantOut(t, e, "")
		e.Tick()
		wantOut(t, e, shown)
	}
	e.Tick()
	e.Tick()
	wantSent(t, e, report(10), api.OK)
	wantTaken(t, e, reportOf(0), 0)
	wantTaken(t, e, ackOf(2))
	e.Tick()
	wantOut(t, e, "0 1 2 3 0 1 2 3 a1 4 5 2 3 4 5")
}

// numbersFrom writes down the numbers from one on, below another.
func numbersFrom(low, high int) string {
	var l []string
	for n := low; n < high; n++ {
		l = append(l, strconv.Itoa(n))
	}
	return strings.Join(l, " ")
}

// TestP5Acknowledge has each number that may be acknowledged, and those about them, at ends that have sent few or many.
func TestP5Acknowledge(t *testing.T) {
	for sent := range 12 {
		for first := range sent + 1 {
			last := min(first+api.Window, sent) // behind the last one that is shown
			for _, ack := range []int{0, 1, 2, 3, 4, 5, 6, 7, 8, 9, 10, 11, 12, 13, 256, 65535} {
				e := sender(t, sent, first)
				wantTaken(t, e, ackOf(ack))
				low := first
				if ack > first && ack <= last {
					low = ack
				}
				high := min(low+api.Window, sent)
				wantOut(t, e, numbersFrom(last, high))
				e.Tick()
				wantOut(t, e, numbersFrom(low, high))
				wantSent(t, e, report(sent), api.OK)
				e.Tick()
				want := numbersFrom(low, min(low+api.Window, sent+1))
				if high < low+api.Window {
					want = strconv.Itoa(sent) + " " + want
				}
				wantOut(t, e, want)
			}
		}
	}
}

// TestP5Near has each number about the awaited one: which are kept shows when those ahead of them come.
func TestP5Near(t *testing.T) {
	for awaited := range 7 {
		answer := "a" + strconv.Itoa(awaited)
		for number := range 16 {
			e := taker(t, awaited)
			if number == awaited {
				wantTaken(t, e, reportOf(number), number)
				wantOut(t, e, "a"+strconv.Itoa(number+1))
				continue
			}
			wantTaken(t, e, reportOf(number))
			wantOut(t, e, answer)
			kept := awaited < number && number < awaited+api.Window
			for n := awaited; n < awaited+2*api.Window; n++ {
				switch {
				case kept && n == number:
					wantTaken(t, e, reportOf(n)) // it was taken with the one ahead of it
					wantOut(t, e, "a"+strconv.Itoa(n+1))
				case kept && n == number-1:
					wantTaken(t, e, reportOf(n), n, number)
					wantOut(t, e, "a"+strconv.Itoa(n+2))
				default:
					wantTaken(t, e, reportOf(n), n)
					wantOut(t, e, "a"+strconv.Itoa(n+1))
				}
			}
		}
	}
}

// TestP5Orders has Window messages in every order, each of them twice, the second time as another one: the first stays.
func TestP5Orders(t *testing.T) {
	for choice := range 256 {
		order := []int{choice & 3, choice >> 2 & 3, choice >> 4 & 3, choice >> 6 & 3}
		if sorted := slices.Sorted(slices.Values(order)); !slices.Equal(sorted, []int{0, 1, 2, 3}) {
			continue
		}
		e := taker(t, 5)
		there := [9]bool{}
		awaited := 5
		for _, k := range order {
			there[5+k] = true
			var want []int
			for awaited < 9 && there[awaited] {
				want = append(want, awaited)
				awaited++
			}
			answer := "a" + strconv.Itoa(awaited)
			wantTaken(t, e, reportOf(5+k), want...)
			wantOut(t, e, answer)
			wantTaken(t, e, bytesOf(5+k, api.Message{Kind: api.Root}))
			wantOut(t, e, answer)
		}
	}
}

// TestP5EveryKind: what is taken is what came, of every kind.
func TestP5EveryKind(t *testing.T) {
	e := arbor.NewEnd()
	seq := 0
	for _, f := range someFrames() {
		if !f.Data {
			continue
		}
		if got := e.In(bytesOf(seq, f.M)); !slices.Equal(got, []api.Message{f.M}) {
			t.Fatalf("In takes %+v, want %+v", got, f.M)
		}
		seq++
		wantOut(t, e, "a"+strconv.Itoa(seq))
	}
}

// TestP5NoFrame: bytes that are no frame are nothing, not even a reason to acknowledge.
func TestP5NoFrame(t *testing.T) {
	e := sender(t, 6, 1)
	wantTaken(t, e, reportOf(1))
	e.Out()
	wrong := [][]byte{nil, {}, {1}, {2}, make([]byte, 5), make([]byte, 10), make([]byte, 1000000),
		summed(2, 0, 2, 0), summed(3, 0, 2), summed(1, 0, 0), bytesOf(0, api.Message{}), bytesOf(0, api.Message{Kind: api.Root, Name: 1}),
		append(ackOf(2), 0), append(reportOf(0), 0), append(ackOf(2), ackOf(3)...)}
	for _, good := range [][]byte{ackOf(2), ackOf(3), reportOf(0), reportOf(2)} {
		for at := range good {
			wrong = append(wrong, good[:at])
			for x := 1; x < 256; x++ {
				spoilt := bytes.Clone(good)
				spoilt[at] ^= byte(x)
				wrong = append(wrong, spoilt)
			}
		}
	}
	for _, b := range wrong {
		wantTaken(t, e, b)
		wantOut(t, e, "")
	}
	e.Tick()
	wantOut(t, e, "1 2 3 4")
	wantTaken(t, e, reportOf(0), 0, 1)
	wantOut(t, e, "a2")
}

// TestP5LastSent: an end sends 65536 messages and no more; the last one is shown for ever, as nothing can acknowledge it.
func TestP5LastSent(t *testing.T) {
	e := arbor.NewEnd()
	for n := range 65536 {
		wantSent(t, e, report(n), api.OK)
	}
	wantOut(t, e, "0 1 2 3")
	wantFull := func() {
		t.Helper()
		wantSent(t, e, report(1), api.ErrSize)
		wantSent(t, e, api.Message{}, api.ErrMessage) // named first
		wantSent(t, e, api.Message{Kind: api.Root, Level: 1}, api.ErrMessage)
		wantOut(t, e, "")
	}
	wantFull()
	for n := 1; n <= 65535; n++ {
		wantTaken(t, e, ackOf(n))
		want := ""
		if n <= 65536-api.Window {
			want = strconv.Itoa(n + api.Window - 1)
		}
		wantOut(t, e, want)
	}
	for _, ack := range []int{0, 1, 65534, 65535} {
		wantTaken(t, e, ackOf(ack))
	}
	wantFull()
	e.Tick()
	e.Tick()
	wantOut(t, e, "65535 65535")
}

// TestP5LastTaken: the number 65536 is awaited at last, and never told.
func TestP5LastTaken(t *testing.T) {
	const near = 65536 - api.Window
	e := taker(t, near)
	for n := 65535; n > near; n-- {
		wantTaken(t, e, reportOf(n))
		wantOut(t, e, "a65532")
	}
	wantTaken(t, e, reportOf(0))
	wantTaken(t, e, reportOf(1))
	wantOut(t, e, "a65532 a65532")
	wantTaken(t, e, reportOf(near), 65532, 65533, 65534, 65535)
	wantOut(t, e, "")
	for _, n := range []int{0, 1, 2, 3, 4, near, 65534, 65535} {
		wantTaken(t, e, reportOf(n))
		wantOut(t, e, "")
	}

	f := taker(t, 65535)
	wantTaken(t, f, reportOf(65534))
	wantOut(t, f, "a65535")
	wantTaken(t, f, reportOf(65535), 65535)
	wantTaken(t, f, reportOf(65535))
	wantOut(t, f, "")
	wantSent(t, f, report(0), api.OK)
	wantOut(t, f, "0")
}

// scribble writes into all bytes and lists, and into their spare room.
func scribble(frames [][]byte) {
	frames = frames[:cap(frames)]
	for i := range frames {
		room := frames[i][:cap(frames[i])]
		for k := range room {
			room[k] = 77
		}
		frames[i] = []byte{77}
	}
}

// TestP2Ends: ends do not change one another, and nothing that comes out is theirs any more.
func TestP2Ends(t *testing.T) {
	a, b := arbor.NewEnd(), arbor.NewEnd()
	for n := range 9 {
		wantSent(t, a, report(n), api.OK)
	}
	wantOut(t, b, "")
	b.Tick()
	wantTaken(t, b, reportOf(1))
	wantOut(t, b, "a0")
	scribble(a.Out())
	a.Tick()
	first := a.Out()
	a.Tick()
	wantTaken(t, a, ackOf(2))
	second := a.Out()
	scribble(first)
	a.Tick()
	if got := told(second); got != "0 1 2 3 4 5" {
		t.Errorf("Out: %q once an earlier answer was written into", got)
	}
	wantOut(t, a, "2 3 4 5")

	taken := b.In(reportOf(0))
	if room := taken[:cap(taken)]; !slices.Equal(taken, []api.Message{report(0), report(1)}) {
		t.Errorf("In takes %+v", taken)
	} else {
		for i := range room {
			room[i] = api.Message{Kind: 77}
		}
	}
	wantTaken(t, b, reportOf(4))
	wantTaken(t, b, reportOf(3))
	wantTaken(t, b, reportOf(2), 2, 3, 4)
}

// TestP2SpareRoom: however many frames came out, what goes out later does not lie in the room behind them.
func TestP2SpareRoom(t *testing.T) {
	for count := range 20 {
		e := taker(t, 1)
		for range count {
			wantTaken(t, e, reportOf(0))
		}
		out := e.Out()
		wantTaken(t, e, reportOf(0))
		scribble(out)
		wantTaken(t, e, reportOf(1), 1)
		scribble(out)
		wantOut(t, e, "a1 a2")
	}
}

// TestP2In: bytes that come are not written into, nor what lies behind them, and are not kept.
func TestP2In(t *testing.T) {
	e := sender(t, 3, 0)
	for _, b := range [][]byte{reportOf(2), reportOf(1), ackOf(1), {1, 2, 3}} {
		n := len(b)
		b = append(b, 9, 9, 9, 9, 9, 9, 9, 9, 9, 9)
		kept := bytes.Clone(b[:cap(b)])
		e.In(b[:n])
		if !bytes.Equal(b[:cap(b)], kept) {
			t.Errorf("In makes %v of %v", b[:cap(b)], kept)
		}
		for k := range b {
			b[k] = 77
		}
	}
	wantOut(t, e, "a0 a0")
	wantTaken(t, e, reportOf(0), 0, 1, 2)
	e.Tick()
	wantOut(t, e, "a3 1 2")
}
