package node_test

import (
	"bytes"
	"slices"
	"testing"

	"colander/api"
	"colander/ledger"
	"colander/node"
	"colander/pack"
	"colander/replica"
	"colander/tape"
)

// move is a call of a node in a state.
type move struct {
	name string
	c    replica.Config
	s    ledger.State
	do   func(t *testing.T, x *pair) node.Answer
}

func delivers(m pack.Message) func(t *testing.T, x *pair) node.Answer {
	return func(t *testing.T, x *pair) node.Answer { return x.deliver(t, m) }
}

func submits(e pack.Entry) func(t *testing.T, x *pair) node.Answer {
	return func(t *testing.T, x *pair) node.Answer { return x.submit(t, e.Client, e.Request, e.Delta) }
}

func activates(version int) func(t *testing.T, x *pair) node.Answer {
	return func(t *testing.T, x *pair) node.Answer { return node.Answer{E: x.activate(t, version)} }
}

// ticks are so many, of which the last one counts.
func ticks(n int) func(t *testing.T, x *pair) node.Answer {
	return func(t *testing.T, x *pair) (a node.Answer) {
		for range n {
			a = x.tick(t)
		}
		return a
	}
}

// changes are calls that change the state.
func changes() []move {
	log := entries("a", "b", "(", "c")
	two := state(1, log[:2]...)
	old := ledger.State{View: 3, Normal: 2, Commit: 1, Active: 1, Log: log[:2]}
	return []move{
		{"submit", config(3, 0), two, submits(entry(9, 1, "x"))},
		{"the Timeout's tick", config(3, 1), two, ticks(3)},
		{"an entry", config(3, 1), two, delivers(logged(1, 0, 0, 1, 3, 1, log[2]))},
		{"an entry, and what is committed", config(3, 1), two, delivers(logged(1, 0, 0, 1, 3, 3, log[2]))},
		{"what is committed", config(3, 1), two, delivers(logged(3, 0, 0, 1, 2, 2))},
		{"a primary of a later view", config(3, 1), two, delivers(logged(3, 2, 2, 1, 2, 2))},
		{"an ack", config(3, 0), two, delivers(ack(0, 2, 0, 2))},
		{"an ack of several", config(3, 0), state(0, log...), delivers(ack(0, 2, 0, 4))},
		{"a view that is wanted", config(3, 0), two, delivers(pack.Message{Kind: 4, View: 1, From: 2, To: 0})},
		{"a change that decides", config(3, 1), two, delivers(logged(5, 4, 2, 1, 4, 3, log...))},
		{"a change that decides in its view", config(3, 0), old, delivers(logged(5, 3, 2, 0, 4, 3, log[0], log[1], log[3], log[2]))},
		{"a view that begins", config(3, 2), old, delivers(logged(6, 3, 0, 2, 3, 2, log[0], log[2], log[3]))},
		{"a log that was wanted", config(3, 1), two, delivers(logged(8, 0, 0, 1, 4, 4, log...))},
		{"activate", config(3, 1), two, activates(1)},
		{"activate another one", config(3, 1), ledger.State{Commit: 4, Active: 3, Log: log}, activates(2)},
	}
}

// idles are calls that leave the state as it is, refused ones among them.
func idles() []move {
	log := entries("a", "b", "(", "c")
	two := state(1, log[:2]...)
	old := ledger.State{View: 4, Normal: 3, Commit: 1, Active: 1, Log: log[:2]}
	return []move{
		{"a primary's tick", config(3, 0), two, ticks(4)},
		{"a tick ahead of the Timeout's", config(3, 1), two, ticks(2)},
		{"an ack of nothing new", config(3, 0), two, delivers(ack(0, 2, 0, 1))},
		{"an ack that isn't enough", config(5, 0), two, delivers(ack(0, 2, 0, 2))},
		{"an ack elsewhere", config(3, 1), two, delivers(ack(0, 2, 1, 2))},
		{"a message of an old view", config(3, 1), old, delivers(logged(1, 3, 0, 1, 3, 3, log[2]))},
		{"a primary that says nothing new", config(3, 1), two, delivers(logged(3, 0, 0, 1, 2, 1))},
		{"a primary that must be asked", config(3, 1), two, delivers(logged(3, 0, 0, 1, 4, 1))},
		{"who asks", config(3, 1), two, delivers(pack.Message{Kind: 7, From: 2, To: 1})},
		{"who wants the view that is changing", config(3, 2), old, delivers(pack.Message{Kind: 4, View: 4, From: 0, To: 2})},
		{"who wants the view that is normal", config(3, 2), two, delivers(pack.Message{Kind: 4, From: 0, To: 2})},
		{"a change for a view that has begun", config(3, 0), two, delivers(logged(5, 0, 1, 0, 1, 1, log[0]))},
		{"a log that doesn't fit", config(3, 1), two, delivers(logged(6, 3, 0, 1, 1, 1, log[1]))},
		{"a log that isn't longer", config(3, 1), two, delivers(logged(8, 0, 0, 1, 2, 2, log[:2]...))},
		{"a wrong message", config(3, 1), two, delivers(pack.Message{})},
		{"submit elsewhere", config(3, 1), two, submits(entry(9, 1, "x"))},
		{"submit what isn't right", config(3, 0), two, submits(entry(0, 1, "x"))},
		{"submit what is there", config(3, 0), two, submits(log[1])},
		{"submit what is committed", config(3, 0), two, submits(log[0])},
		{"submit to a full log", config(3, 0), state(0, slices.Repeat(log, 16)...), submits(entry(9, 1, "x"))},
		{"activate what is active", config(3, 1), ledger.State{Commit: 1, Active: 1, Log: log}, activates(1)},
		{"activate what isn't there", config(3, 1), two, activates(2)},
	}
}

// between are the states on the way from one to another one.
func between(t *testing.T, was, now ledger.State) []ledger.State {
	t.Helper()
	records, e := ledger.Between(was, now)
	if e != api.OK || len(records) == 0 {
		t.Fatalf("%d, %d records", e, len(records))
	}
	list := []ledger.State{was}
	for _, r := range records {
		was, _ = ledger.Apply(was, r)
		list = append(list, was)
	}
	return list
}

// after is the state behind a move, and how many bytes it wrote.
func (m move) after(t *testing.T) (ledger.State, int) {
	t.Helper()
	x := paired(t, m.c, m.s)
	was := x.tape.Safe()
	if a := m.do(t, x); a.E != api.OK {
		t.Fatalf("%s: %+v", m.name, a)
	}
	return x.n.State(), x.tape.Safe() - was
}

// P16 (a step): the state is saved, if it is another one, in one append and one sync; it is all safe when the call answers.
func TestSaves(t *testing.T) {
	for _, m := range changes() {
		x := paired(t, m.c, m.s)
		x.arm(2)
		if a := m.do(t, x); a.E != api.OK || x.tape.Down() || x.tape.Safe() < len(x.tape.Bytes()) {
			t.Fatalf("%s: %+v", m.name, a)
		}
		s := x.n.State()
		if x.tape.Append(nil) != api.ErrDown || sameState(s, m.s) {
			t.Fatalf("%s: fewer than two calls, or nothing changed", m.name)
		}
		x.p.tape.Append(nil)
		x.crash(0, nil)
		x.start(t)
		if !sameState(x.n.State(), s) {
			t.Fatalf("%s: %+v, not %+v", m.name, x.n.State(), s)
		}
	}
}

// P16 (a step): where nothing changes nothing is saved: no call is made on the tape, and one that is down is no matter.
func TestSavesNothing(t *testing.T) {
	for _, m := range idles() {
		want := m.do(t, paired(t, m.c, m.s))
		for _, down := range []bool{false, true} {
			x := paired(t, m.c, m.s)
			x.arm(0)
			if down {
				x.down()
			}
			if a := m.do(t, x); !sameAnswer(a, want) || x.n.Stopped() || x.tape.Down() != down || !sameState(x.n.State(), m.s) {
				t.Fatalf("%s: %+v, not %+v", m.name, a, want)
			}
		}
	}
}

// checkStopped holds that each call is answered ErrDown, whatever it asks for, and that the tape isn't called any more.
func checkStopped(t *testing.T, x *pair) {
	t.Helper()
	if !x.n.Stopped() {
		t.Fatal("it isn't stopped")
	}
	was := x.tape.Bytes()
	for range 4 {
		checkError(t, x.tick(t), api.ErrDown)
		for _, e := range []pack.Entry{entry(9, 1, "x"), entry(1, 1, "a"), {}} {
			checkError(t, x.submit(t, e.Client, e.Request, e.Delta), api.ErrDown)
		}
		for _, m := range append(wrongMessages(), ack(0, 2, x.c.ID, 2), logged(3, 9, 0, x.c.ID, 2, 2), pack.Message{Kind: 7, From: 2, To: x.c.ID}) {
			checkError(t, x.deliver(t, m), api.ErrDown)
		}
		for _, version := range []int{-1, 0, 1, 2, 65} {
			if e := x.activate(t, version); e != api.ErrDown {
				t.Fatalf("activate %d: %d", version, e)
			}
		}
		if said := x.classify(t, "ab", 1); said != (node.Said{}) || !x.n.Stopped() {
			t.Fatalf("%+v", said)
		}
	}
	if !bytes.Equal(x.tape.Bytes(), was) {
		t.Fatal("it writes on")
	}
}

// P16 (a step) and P16.5: where the tape has an error at the append or at the sync, the answer has that, and nothing besides; the node is stopped, also when the tape is up again.
func TestStops(t *testing.T) {
	for _, m := range changes() {
		for _, n := range []int{0, 1} {
			x := paired(t, m.c, m.s)
			was := x.tape.Safe()
			x.arm(n)
			checkError(t, m.do(t, x), api.ErrDown)
			_, size := m.after(t)
			if x.tape.Safe() != was || len(x.tape.Bytes()) != was+size {
				t.Fatalf("%s: %d and %d bytes, %d safe, and %d come", m.name, was, len(x.tape.Bytes())-was, x.tape.Safe(), size)
			}
			checkStopped(t, x)
			x.crash(size, nil)
			checkStopped(t, x)
		}
	}
}

// P16 (a step): so it is where the tape was down ahead of the call.
func TestStopsDown(t *testing.T) {
	for _, m := range changes() {
		x := paired(t, m.c, m.s)
		was := x.tape.Bytes()
		x.down()
		checkError(t, m.do(t, x), api.ErrDown)
		checkStopped(t, x)
		if !bytes.Equal(x.tape.Bytes(), was) {
			t.Fatalf("%s: something is written", m.name)
		}
		x.crash(0, nil)
		checkStopped(t, x)
		x.start(t)
		if !sameState(x.n.State(), m.s) {
			t.Fatalf("%s: %+v, not %+v", m.name, x.n.State(), m.s)
		}
	}
}

// roomy are two tapes that have a state, and room for so many bytes more.
func roomy(t *testing.T, s ledger.State, more int) (one, two *tape.Tape) {
	t.Helper()
	b := tapeOf(t, s).Bytes()
	one, two = tape.New(len(b)+more), tape.New(len(b)+more)
	for _, on := range []*tape.Tape{one, two} {
		on.Append(b)
		on.Sync()
	}
	return one, two
}

// P16 (a step): ErrSpace, if there is no room on the tape; it is left as it was.
func TestStopsFull(t *testing.T) {
	for _, m := range changes() {
		now, size := m.after(t)
		for _, short := range []int{0, 1, size} {
			one, two := roomy(t, m.s, size-short)
			x := pairedOn(t, m.c, one, two)
			was := one.Bytes()
			a := m.do(t, x)
			if short == 0 {
				if a.E != api.OK || !sameState(x.n.State(), now) || one.Room() != 0 {
					t.Fatalf("%s: %+v", m.name, a)
				}
				continue
			}
			checkError(t, a, api.ErrSpace)
			checkStopped(t, x)
			if !bytes.Equal(one.Bytes(), was) {
				t.Fatalf("%s: something is written", m.name)
			}
			x.start(t)
			if !sameState(x.n.State(), m.s) {
				t.Fatalf("%s: %+v, not %+v", m.name, x.n.State(), m.s)
			}
		}
	}
}

// P16 (a step), P16.1 and P3: a node that is started on what a stopped one left has the state with which it last answered, or one between that and what it couldn't save; behind that it goes on as any.
func TestStopsAndStarts(t *testing.T) {
	for _, m := range changes() {
		now, size := m.after(t)
		list := between(t, m.s, now)
		same := func(x *pair) func(s ledger.State) bool {
			return func(s ledger.State) bool { return sameState(s, x.n.State()) }
		}
		seen := map[int]int{}
		for keep := -1; keep <= size+1; keep++ {
			for _, turn := range [][]byte{nil, append(make([]byte, max(keep-1, 0)), 0xff)} {
				x := paired(t, m.c, m.s)
				x.arm(keep & 1)
				m.do(t, x)
				x.crash(keep, turn)
				x.start(t)
				place := slices.IndexFunc(list, same(x))
				if place < 0 || keep >= size && turn == nil && place < len(list)-1 {
					t.Fatalf("%s, %d bytes: %+v", m.name, keep, x.n.State())
				}
				seen[place]++
				x.tick(t)
				x.deliver(t, ack(x.n.Status().View, (m.c.ID+1)%3, m.c.ID, 4))
			}
		}
		if len(seen) != len(list) {
			t.Fatalf("%s: %v of %d states", m.name, seen, len(list))
		}
	}
}

// P16.1: the power may go at any other time, too: what was answered is kept.
func TestCrashes(t *testing.T) {
	for _, m := range append(changes(), idles()...) {
		x := paired(t, m.c, m.s)
		m.do(t, x)
		s := x.n.State()
		x.crash(0, nil)
		x.start(t)
		if !sameState(x.n.State(), s) {
			t.Fatalf("%s: %+v, not %+v", m.name, x.n.State(), s)
		}
	}
}
