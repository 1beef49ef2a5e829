package node

import (
	"fmt"
	"reflect"
	"strings"
	"testing"

	"arbor/api"
)

// The edges of the tests weigh 10, 20, ..: so the edge j weighs 10 * (j + 1).
func sleeper(edges int) *Node {
	var weights []int
	for j := range edges {
		weights = append(weights, 10*(j+1))
	}
	return New(weights)
}

// letters writes down what a node sent: the edge, the message.
func letters(n *Node) string {
	var l []string
	for _, x := range n.Sent() {
		l = append(l, fmt.Sprintf("%d:%s", x.Edge, words(x.M)))
	}
	return strings.Join(l, " ")
}

func words(m api.Message) string {
	s := [...]string{"?", "connect", "initiate", "test", "accept", "reject", "report", "root"}[m.Kind]
	if m.Level != 0 || m.Name != 0 {
		s += fmt.Sprintf("%d.%d", m.Level, m.Name)
	}
	if m.Finding {
		s += "!"
	}
	return s
}

// look writes down a node: state, level, name, edges; over and how many are put off, if so.
func look(n *Node) string {
	x := n.Look()
	s := [...]string{"asleep", "find", "found"}[x.State] + fmt.Sprintf(" %d.%d ", x.Level, x.Name)
	for _, e := range x.Edges {
		s += [...]string{"-", "B", "R"}[e]
	}
	if x.Off > 0 {
		s += fmt.Sprintf(" off %d", x.Off)
	}
	if x.Over {
		s += " over"
	}
	return s
}

// step is a message over an edge, and what comes of it; of the kind 0 it is none: the node is woken.
type step struct {
	edge       int
	m          api.Message
	sent, look string
}

func walk(t *testing.T, n *Node, steps ...step) {
	t.Helper()
	for i, s := range steps {
		if s.m.Kind == 0 {
			n.Wake()
		} else {
			n.Take(s.edge, s.m)
		}
		if got := letters(n); got != s.sent {
			t.Fatalf("step %d, %s over %d: sent is %q, want %q", i, words(s.m), s.edge, got, s.sent)
		}
		if got := look(n); got != s.look {
			t.Fatalf("step %d, %s over %d: %q, want %q", i, words(s.m), s.edge, got, s.look)
		}
	}
}

func con(level int) api.Message { return api.Message{Kind: api.Connect, Level: level} }
func ini(level, name int) api.Message {
	return api.Message{Kind: api.Initiate, Level: level, Name: name}
}
func find(level, name int) api.Message {
	return api.Message{Kind: api.Initiate, Level: level, Name: name, Finding: true}
}
func tst(level, name int) api.Message {
	return api.Message{Kind: api.Test, Level: level, Name: name}
}
func rep(weight int) api.Message { return api.Message{Kind: api.Report, Name: weight} }

var (
	wake = api.Message{}
	acc  = api.Message{Kind: api.Accept}
	rej  = api.Message{Kind: api.Reject}
	rot  = api.Message{Kind: api.Root}
)

func TestWake(t *testing.T) {
	for edges, want := range []string{"found 0.0  over", "found 0.0 B", "found 0.0 B-", "found 0.0 B--"} {
		n := sleeper(edges)
		if got := look(n); got != "asleep 0.0 "+strings.Repeat("-", edges) {
			t.Errorf("a new node: %q", got)
		}
		sent := "0:connect"
		if edges == 0 {
			sent = ""
		}
		walk(t, n, step{0, wake, sent, want}, step{0, wake, "", want})
	}
}

// TestConnect: asleep; of its own level over a Basic edge and over a branch; from below, while it finds and when it has found.
func TestConnect(t *testing.T) {
	walk(t, sleeper(2), step{0, con(0), "0:connect 0:initiate1.10!", "found 0.0 B-"})
	walk(t, sleeper(2), step{1, con(0), "0:connect", "found 0.0 B- off 1"})
	walk(t, sleeper(3),
		step{0, con(0), "0:connect 0:initiate1.10!", "found 0.0 B--"},
		step{0, find(1, 10), "1:test1.10", "find 1.10 B--"},
		step{2, con(0), "2:initiate1.10!", "find 1.10 B-B"},
		step{1, con(1), "", "find 1.10 B-B off 1"},
		step{1, acc, "", "find 1.10 B-B off 1"},
		step{2, rep(0), "0:report0.20", "found 1.10 B-B off 1"},
		step{0, rep(30), "1:connect1.0 1:initiate2.20!", "found 1.10 BBB"},
	)
	walk(t, sleeper(3),
		step{0, wake, "0:connect", "found 0.0 B--"},
		step{0, ini(2, 77), "", "found 2.77 B--"},
		step{1, con(1), "1:initiate2.77", "found 2.77 BB-"},
		step{2, con(2), "", "found 2.77 BB- off 1"},
		step{1, con(2), "1:initiate3.20!", "found 2.77 BB- off 1"},
	)
}

// TestCount: just those that were told to find are waited for.
func TestCount(t *testing.T) {
	walk(t, sleeper(3),
		step{0, wake, "0:connect", "found 0.0 B--"},
		step{0, ini(1, 10), "", "found 1.10 B--"},
		step{1, con(0), "1:initiate1.10", "found 1.10 BB-"},
		step{2, con(0), "2:initiate1.10", "found 1.10 BBB"},
		step{0, find(2, 90), "1:initiate2.90! 2:initiate2.90!", "find 2.90 BBB"},
		step{1, rep(55), "", "find 2.90 BBB"},
		step{2, rep(44), "0:report0.44", "found 2.90 BBB"},
		step{0, rot, "2:root", "found 2.90 BBB"},
	)
}

// TestInitiate goes over all branches but the one it came over, in the order of the edges, and forgets what was best.
func TestInitiate(t *testing.T) {
	n := sleeper(5)
	walk(t, n,
		step{0, wake, "0:connect", "found 0.0 B----"},
		step{0, ini(1, 10), "", "found 1.10 B----"},
		step{4, con(0), "4:initiate1.10", "found 1.10 B---B"},
		step{2, con(0), "2:initiate1.10", "found 1.10 B-B-B"},
		step{2, ini(2, 20), "0:initiate2.20 4:initiate2.20", "found 2.20 B-B-B"},
		step{4, find(3, 30), "0:initiate3.30! 2:initiate3.30! 1:test3.30", "find 3.30 B-B-B"},
		step{0, rep(15), "", "find 3.30 B-B-B"},
		step{2, rep(0), "", "find 3.30 B-B-B"},
		step{1, acc, "4:report0.15", "found 3.30 B-B-B"},
		step{4, ini(4, 40), "0:initiate4.40 2:initiate4.40", "found 4.40 B-B-B"},
		step{4, rep(0), "", "found 4.40 B-B-B over"},
	)
}

// TestTests: the lightest Basic edge first, the next when that is rejected; a report when there is none any more.
func TestTests(t *testing.T) {
	walk(t, sleeper(4),
		step{0, wake, "0:connect", "found 0.0 B---"},
		step{0, find(1, 10), "1:test1.10", "find 1.10 B---"},
		step{1, rej, "2:test1.10", "find 1.10 BR--"},
		step{2, rej, "3:test1.10", "find 1.10 BRR-"},
		step{3, rej, "0:report", "found 1.10 BRRR"},
		step{0, rep(0), "", "found 1.10 BRRR over"},
	)
	walk(t, sleeper(3), // a branch that is rejected stays one
		step{0, wake, "0:connect", "found 0.0 B--"},
		step{0, find(1, 10), "1:test1.10", "find 1.10 B--"},
		step{1, con(0), "1:initiate1.10!", "find 1.10 BB-"},
		step{1, rej, "2:test1.10", "find 1.10 BB-"},
		step{2, acc, "", "find 1.10 BB-"},
		step{1, rep(0), "0:report0.30", "found 1.10 BB-"},
	)
}

// TestTest: asleep; of another name; of its own name, over the edge that it tests itself, and over another one; of a higher level.
func TestTest(t *testing.T) {
	walk(t, sleeper(2), step{1, tst(0, 5), "0:connect 1:accept", "found 0.0 B-"})
	walk(t, sleeper(2), step{1, tst(0, 0), "0:connect 1:reject", "found 0.0 BR"})
	walk(t, sleeper(2), step{1, tst(1, 5), "0:connect", "found 0.0 B- off 1"})
	n := sleeper(5)
	walk(t, n,
		step{0, wake, "0:connect", "found 0.0 B----"},
		step{0, find(2, 77), "1:test2.77", "find 2.77 B----"},
		step{3, tst(2, 77), "3:reject", "find 2.77 B--R-"},
		step{2, tst(2, 78), "2:accept", "find 2.77 B--R-"},
		step{2, tst(1, 77), "2:reject", "find 2.77 B-RR-"},
		step{1, tst(1, 10), "1:accept", "find 2.77 B-RR-"},
		step{1, tst(2, 77), "4:test2.77", "find 2.77 BRRR-"},
		step{3, tst(2, 77), "3:reject", "find 2.77 BRRR-"},
		step{4, tst(3, 99), "", "find 2.77 BRRR- off 1"},
		step{0, tst(2, 77), "0:reject", "find 2.77 BRRR- off 1"},
	)
}

// TestAccept: the best is the lightest that was heard of; one that is as light changes nothing.
func TestAccept(t *testing.T) {
	start := func() *Node {
		n := sleeper(3)
		walk(t, n,
			step{0, wake, "0:connect", "found 0.0 B--"},
			step{0, ini(1, 10), "", "found 1.10 B--"},
			step{2, con(0), "2:initiate1.10", "found 1.10 B-B"},
			step{0, find(2, 77), "2:initiate2.77! 1:test2.77", "find 2.77 B-B"},
		)
		return n
	}
	walk(t, start(),
		step{1, acc, "", "find 2.77 B-B"},
		step{2, rep(19), "0:report0.19", "found 2.77 B-B"},
		step{0, rot, "2:root", "found 2.77 B-B"},
	)
	for _, w := range []int{20, 21, 1000, 0} {
		walk(t, start(),
			step{1, acc, "", "find 2.77 B-B"},
			step{2, rep(w), "0:report0.20", "found 2.77 B-B"},
			step{0, rot, "1:connect2.0", "found 2.77 BBB"},
		)
	}
	walk(t, start(),
		step{2, rep(20), "", "find 2.77 B-B"},
		step{1, acc, "0:report0.20", "found 2.77 B-B"},
		step{0, rot, "2:root", "found 2.77 B-B"},
	)
	walk(t, start(),
		step{2, rep(21), "", "find 2.77 B-B"},
		step{1, acc, "0:report0.20", "found 2.77 B-B"},
		step{0, rot, "1:connect2.0", "found 2.77 BBB"},
		step{0, rot, "1:root", "found 2.77 BBB"},
	)
}

// TestReportOverIn: the lighter half changes the root, the other does nothing; without any edge it is over.
func TestReportOverIn(t *testing.T) {
	start := func() *Node {
		n := sleeper(2)
		walk(t, n,
			step{0, wake, "0:connect", "found 0.0 B-"},
			step{0, find(1, 10), "1:test1.10", "find 1.10 B-"},
			step{0, rep(20), "", "find 1.10 B- off 1"},
		)
		return n
	}
	walk(t, start(), step{1, acc, "0:report0.20", "found 1.10 B-"})
	walk(t, start(), step{1, rej, "0:report", "found 1.10 BR"})
	for w, sent := range map[int]string{19: "", 20: "", 21: "1:connect1.0", 1000: "1:connect1.0", 0: "1:connect1.0"} {
		n := sleeper(2)
		walk(t, n,
			step{0, wake, "0:connect", "found 0.0 B-"},
			step{0, find(1, 10), "1:test1.10", "find 1.10 B-"},
			step{1, acc, "0:report0.20", "found 1.10 B-"},
		)
		want := "found 1.10 B-"
		if sent != "" {
			want = "found 1.10 BB"
		}
		walk(t, n, step{0, rep(w), sent, want})
	}
	for w, want := range map[int]string{0: "found 1.10 B over", 1: "found 1.10 B", 1000: "found 1.10 B"} {
		walk(t, sleeper(1),
			step{0, wake, "0:connect", "found 0.0 B"},
			step{0, find(1, 10), "0:report", "found 1.10 B"},
			step{0, rep(w), "", want},
		)
	}
}

// TestPutOffOrder: those put off are tried from the first on, and again from the first on when one was done; one that is put off again stays in its place.
func TestPutOffOrder(t *testing.T) {
	walk(t, sleeper(6),
		step{3, con(0), "0:connect", "found 0.0 B----- off 1"},
		step{5, con(0), "", "found 0.0 B----- off 2"},
		step{1, tst(3, 99), "", "found 0.0 B----- off 3"},
		step{2, con(1), "", "found 0.0 B----- off 4"},
		step{4, tst(1, 99), "", "found 0.0 B----- off 5"},
		step{0, con(0), "0:initiate1.10!", "found 0.0 B----- off 5"},
		// Level 1: the first two and the last are done, in their order.
		step{0, ini(1, 10), "3:initiate1.10 5:initiate1.10 4:accept", "found 1.10 B--B-B off 2"},
		step{4, con(1), "", "found 1.10 B--B-B off 3"},
		// Level 2: two Connects, the one that waits for longer first, though its edge is behind the Test that waits on.
		step{0, ini(2, 20), "3:initiate2.20 5:initiate2.20 2:initiate2.20 4:initiate2.20", "found 2.20 B-BBBB off 1"},
		step{0, ini(3, 30), "2:initiate3.30 3:initiate3.30 4:initiate3.30 5:initiate3.30 1:accept", "found 3.30 B-BBBB"},
	)
}

// TestPutOffAgainFromTheFirst: a later message lets an earlier one be done, which then goes ahead of those between.
func TestPutOffAgainFromTheFirst(t *testing.T) {
	n := sleeper(4)
	walk(t, n,
		step{0, wake, "0:connect", "found 0.0 B---"},
		step{0, find(1, 10), "1:test1.10", "find 1.10 B---"},
		step{1, con(1), "", "find 1.10 B--- off 1"},
		step{0, rep(30), "", "find 1.10 B--- off 2"},
		step{2, con(1), "", "find 1.10 B--- off 3"},
		step{2, tst(1, 50), "2:accept", "find 1.10 B--- off 3"},
		// The Accept lets the Report be done, that makes 1 a branch: so the first one is done behind the second.
		step{1, acc, "0:report0.20 1:connect1.0 1:initiate2.20!", "found 1.10 BB-- off 1"},
		step{1, find(2, 20), "0:initiate2.20! 2:test2.20 2:initiate2.20!", "find 2.20 BBB-"},
	)
}

// TestPutOffAtLast: a message that is put off lets no other be tried.
func TestPutOffAtLast(t *testing.T) {
	n := sleeper(3)
	n.off = []came{{1, accept{}}}
	walk(t, n,
		step{2, con(0), "0:connect", "found 0.0 B-- off 2"},
		step{2, tst(0, 9), "2:accept", "found 0.0 B-- off 1"},
	)
}

// TestOdd: messages that no neighbour would send are done as the words say, and none panics.
func TestOdd(t *testing.T) {
	all := []api.Message{con(0), con(9), ini(0, 1), ini(9, 1000), find(9, 1000), tst(0, 0), tst(9, 1000), acc, rej, rep(0), rep(1000), rot, {}, {Kind: 8}, {Kind: -1}}
	for _, a := range all {
		for _, b := range all {
			for _, c := range all {
				n := sleeper(2)
				for j, m := range []api.Message{a, b, c, a, b} {
					n.Take(j%2, m)
				}
			}
		}
	}
	walk(t, sleeper(1), step{0, rot, "", "asleep 0.0 -"})
	walk(t, sleeper(1), step{0, api.Message{Kind: 8}, "", "asleep 0.0 -"})
	walk(t, sleeper(1), step{0, rej, "", "found 0.0 R"})
	walk(t, sleeper(3),
		step{0, wake, "0:connect", "found 0.0 B--"},
		step{0, find(1, 10), "1:test1.10", "find 1.10 B--"},
		step{1, acc, "0:report0.20", "found 1.10 B--"},
		step{2, tst(1, 10), "2:reject", "found 1.10 B-R"},
		step{2, con(1), "2:initiate2.30!", "found 1.10 B-R"}, // no Basic edge: it is not put off
		step{0, ini(2, 77), "", "found 2.77 B-R"},
		step{0, rot, "", "found 2.77 B-R"}, // there is no best edge any more
	)
	n := sleeper(2)
	walk(t, n, step{1, rep(5), "", "asleep 0.0 --"}, step{0, wake, "0:connect", "found 0.0 B-"})
	if n.count != 0 {
		t.Errorf("COUNT is %d once it has woken", n.count)
	}
}

// TestTyped: each kind is a type of its own, and tells the same plain message again.
func TestTyped(t *testing.T) {
	for want, m := range map[message]api.Message{
		connect{3}: con(3), initiate{2, 1000, false}: ini(2, 1000), initiate{9, 1, true}: find(9, 1), test{9, 0}: tst(9, 0),
		accept{}: acc, reject{}: rej, report{aboveAll}: rep(0), report{1000}: rep(1000), root{}: rot,
	} {
		if got := typed(m); got != want {
			t.Errorf("typed(%+v) = %#v", m, got)
		}
		if got := want.plain(); got != m {
			t.Errorf("%#v is %+v", want, got)
		}
	}
	for _, kind := range []int{0, -1, 8, 1 << 40} {
		if got := typed(api.Message{Kind: kind}); got != nil {
			t.Errorf("typed(%d) = %#v", kind, got)
		}
	}
}

// TestFresh: what a node tells is not its own any more.
func TestFresh(t *testing.T) {
	n := sleeper(3)
	n.Wake()
	first := n.Look()
	for j := range first.Edges[:cap(first.Edges)] {
		first.Edges[:cap(first.Edges)][j] = 77
	}
	if got := n.Look(); !reflect.DeepEqual(got.Edges, []int{api.Branch, api.Basic, api.Basic}) {
		t.Errorf("Look tells %v once an earlier answer was written into", got.Edges)
	}
	sent := n.Sent()
	n.Take(1, tst(0, 5))
	sent[:cap(sent)][0] = Letter{Edge: 77}
	if got := letters(n); got != "1:accept" {
		t.Errorf("sent is %q", got)
	}
}
