package node_test

import (
	"bytes"
	"reflect"
	"testing"

	"colander/api"
	"colander/ledger"
	"colander/node"
	"colander/pack"
	"colander/replica"
	"colander/rule"
	"colander/spare"
	"colander/tape"
)

// call is one with a log, or nothing, that is handed in.
type call struct {
	in []pack.Entry
	do func(n *node.Node, in []pack.Entry) node.Answer
}

func handsMessage(m pack.Message) call {
	return call{m.Log, func(n *node.Node, in []pack.Entry) node.Answer {
		m := m
		m.Log = in
		return n.Deliver(m)
	}}
}

func handsDelta(client, request int, d rule.Delta) call {
	return call{[]pack.Entry{{Delta: d}}, func(n *node.Node, in []pack.Entry) node.Answer {
		return n.Submit(client, request, in[0].Delta)
	}}
}

func handsNothing() call {
	return call{nil, func(n *node.Node, _ []pack.Entry) node.Answer { return n.Tick() }}
}

// script is calls that one node has, one after another.
type script struct {
	c     replica.Config
	s     ledger.State
	calls []call
}

// richDelta puts and drops, so that both lists are there.
func richDelta(id int, drop ...int) rule.Delta {
	d := puts(id, "a")
	d.Drop = drop
	return d
}

// richLog has entries with both lists.
func richLog() []pack.Entry {
	return []pack.Entry{
		{Client: 1, Request: 1, Delta: puts(1, "a")}, {Client: 1, Request: 2, Delta: richDelta(2, 1)}, {Client: 1, Request: 3, Delta: richDelta(3, 2)},
		{Client: 1, Request: 4, Delta: richDelta(4, 9)}, {Client: 1, Request: 5, Delta: richDelta(5, 3)}, {Client: 1, Request: 6, Delta: richDelta(6, 5)},
	}
}

// scripts hand in and tell logs in all ways.
func scripts() []script {
	log := richLog()
	wrong := richDelta(0, 1)
	return []script{
		{config(3, 0), state(1, log[:2]...), []call{
			handsDelta(1, 3, log[2].Delta), handsDelta(1, 3, log[2].Delta), handsDelta(1, 1, log[0].Delta), handsDelta(1, 9, wrong), handsNothing(), handsMessage(ack(0, 1, 0, 3)),
			handsDelta(1, 2, log[2].Delta), handsDelta(1, 3, log[2].Delta), handsMessage(pack.Message{Kind: 7, From: 1}), handsMessage(pack.Message{Kind: 7, From: 2}),
			handsMessage(logged(6, 1, 1, 0, 5, 4, log[:5]...)), handsMessage(logged(1, 1, 1, 0, 6, 5, log[5])), handsMessage(logged(1, 1, 1, 0, 6, 5, log[5])), handsDelta(2, 1, log[2].Delta),
		}},
		{config(3, 1), state(1, log[:2]...), []call{
			handsMessage(logged(1, 0, 0, 1, 3, 2, log[2])), handsMessage(logged(8, 0, 0, 1, 6, 3, log...)), handsNothing(), handsNothing(), handsNothing(),
			handsMessage(pack.Message{Kind: 4, View: 1, From: 0, To: 1}), handsMessage(logged(5, 1, 2, 1, 6, 5, log...)), handsMessage(logged(5, 1, 0, 1, 6, 5, log...)), handsMessage(ack(1, 2, 1, 6)),
			handsDelta(2, 1, log[2].Delta), handsMessage(logged(6, 1, 1, 1, 1, 1, log[0])),
		}},
		{config(5, 3), ledger.State{View: 2, Normal: 1, Commit: 2, Log: log[:3]}, []call{
			handsMessage(pack.Message{Kind: 4, View: 2, From: 0, To: 3}), handsMessage(pack.Message{Kind: 4, View: 2, From: 1, To: 3}), handsMessage(pack.Message{Kind: 4, View: 2, From: 4, To: 3}),
			handsMessage(logged(6, 2, 2, 3, 4, 4, log[:4]...)), handsMessage(logged(6, 2, 2, 3, 4, 4, log[:4]...)), handsMessage(logged(8, 4, 2, 3, 5, 4, log[:5]...)),
		}},
	}
}

// keepAll keeps all lists that a node tells of itself.
func keepAll(m *spare.Memory, n *node.Node) {
	m.Keep(n.State().Log)
	for version := range n.Status().Version + 2 {
		set, _ := n.Set(version)
		m.Keep([]pack.Entry{{Delta: rule.Delta{Put: set.Rules}}})
	}
}

// checkScript has the calls done with roomy lists, and on another node with others, and holds that both do the same.
func checkScript(t *testing.T, s script, spoils bool) {
	t.Helper()
	m := &spare.Memory{Spoils: spoils}
	on, clean := tapeOf(t, s.s), tapeOf(t, s.s)
	n, _ := node.Start(s.c, on)
	other, _ := node.Start(s.c, clean)
	for i, c := range s.calls {
		in := spare.Log(c.in)
		was := spare.WholeLog(in)
		a := c.do(n, in)
		if !reflect.DeepEqual(spare.WholeLog(in), was) {
			t.Fatalf("the call %d changes what is handed in", i)
		}
		if want := c.do(other, c.in); !sameAnswer(a, want) {
			t.Fatalf("the call %d: %+v, not %+v", i, a, want)
		}
		m.Keep(in)
		for _, said := range a.Out {
			m.Keep(said.Log)
		}
		spare.Spoil(a.Out, pack.Message{Kind: 77})
		spare.Spoil(a.Replies, node.Reply{Client: 77})
		keepAll(m, n)
		keepAll(m, n)
		checkAlike(t, n, other)
	}
	if !bytes.Equal(on.Bytes(), clean.Bytes()) {
		t.Fatal("they kept other things")
	}
	if !m.Sound() {
		t.Fatal("what was handed in or told has changed since, or two lists share")
	}
}

// checkAlike holds that two nodes tell the same.
func checkAlike(t *testing.T, n, other *node.Node) {
	t.Helper()
	if !sameState(n.State(), other.State()) || n.Status() != other.Status() || n.Stopped() != other.Stopped() {
		t.Fatalf("%+v, not %+v", n.State(), other.State())
	}
	for version := range other.Status().Version + 2 {
		one, ok := n.Set(version)
		two, there := other.Set(version)
		if ok != there || !sameSet(one, two) {
			t.Fatalf("the version %d: %+v, not %+v", version, one, two)
		}
	}
}

// Rules that hold everywhere: what is handed in is neither changed nor kept, and what is told is new memory: no two messages, no two answers, no answer and an argument share any, and nothing that is written over is seen again.
func TestMemory(t *testing.T) {
	for _, s := range scripts() {
		checkScript(t, s, false)
		checkScript(t, s, true)
	}
}

// Rules that hold everywhere: so it is of a node that is stopped at any of the calls, or was ahead of them.
func TestMemoryStopped(t *testing.T) {
	for _, s := range scripts() {
		for n := range 4 {
			on := tapeOf(t, s.s)
			x, _ := node.Start(s.c, on)
			on.Arm(n)
			var ins, was [][]pack.Entry
			for _, c := range s.calls {
				in := spare.Log(c.in)
				ins, was = append(ins, in), append(was, spare.WholeLog(in))
				c.do(x, in)
			}
			if !x.Stopped() {
				t.Fatalf("%d calls of the tape are too many", n)
			}
			for i, in := range ins {
				if !reflect.DeepEqual(spare.WholeLog(in), was[i]) {
					t.Fatalf("the call %d changes what is handed in", i)
				}
			}
		}
	}
}

// Rules that hold everywhere: a text is neither changed nor kept, its spare room neither; whatever is said of it.
func TestMemoryText(t *testing.T) {
	for active := range 3 {
		s := state(2, entries("b$", "b\x00?c")...)
		s.Active = active
		n, _ := node.Start(config(3, 0), tapeOf(t, s))
		for _, text := range []string{"", "ab", "abc", string(make([]byte, api.MaxText+1))} {
			doc := spare.List([]byte(text), 'c')
			said := n.Classify(doc, 1)
			if string(doc[:cap(doc)][:len(text)+3]) != text+"ccc" {
				t.Fatalf("%q: the text is changed", text)
			}
			spare.Spoil(doc, 'b')
			if again := n.Classify([]byte(text), 1); again != said {
				t.Fatalf("%q: %+v, and then %+v", text, said, again)
			}
		}
	}
}

// Rules that hold everywhere: two nodes share nothing, also where one takes just what the other one says.
func TestMemoryTwo(t *testing.T) {
	log := richLog()
	one, _ := node.Start(config(3, 0), tapeOf(t, state(1, log...)))
	two, _ := node.Start(config(3, 1), tape.New(api.MaxDisk))
	a := one.Deliver(pack.Message{Kind: 7, From: 1})
	two.Deliver(a.Out[0])
	m := &spare.Memory{}
	keepAll(m, one)
	keepAll(m, two)
	if !pack.Same(two.State().Log, log) || !m.Sound() || !pack.Same(one.State().Log, log) || !pack.Same(two.State().Log, log) {
		t.Fatalf("%+v", two.State().Log)
	}
}

// Rules that hold everywhere: what is refused changes nothing: behind it all goes on as it would have, and the tape has nothing of it.
func TestRefusedChangesNothing(t *testing.T) {
	for _, s := range scripts() {
		on, clean := tapeOf(t, s.s), tapeOf(t, s.s)
		n, _ := node.Start(s.c, on)
		other, _ := node.Start(s.c, clean)
		for i, c := range s.calls {
			for _, d := range wrongDeltas() {
				n.Submit(1, 1, d)
				n.Submit(9, 0, richDelta(1))
			}
			for _, m := range wrongMessages() {
				m.To, m.From = s.c.ID, s.c.ID
				n.Deliver(m)
			}
			for _, version := range []int{-1, 0, n.Status().Version + 1} {
				n.Activate(version)
			}
			if a, want := c.do(n, c.in), c.do(other, c.in); !sameAnswer(a, want) {
				t.Fatalf("the call %d: %+v, not %+v", i, a, want)
			}
			checkAlike(t, n, other)
		}
		if !bytes.Equal(on.Bytes(), clean.Bytes()) {
			t.Fatal("the tape has more")
		}
	}
}
