package replica_test

import (
	"reflect"
	"testing"

	"colander/api"
	"colander/ledger"
	"colander/pack"
	"colander/replica"
	"colander/spare"
)

// call is one with a log, or nothing, that is handed in.
type call struct {
	in []pack.Entry
	do func(r *replica.Replica, in []pack.Entry) []pack.Message
}

func delivers(m pack.Message) call {
	return call{m.Log, func(r *replica.Replica, in []pack.Entry) []pack.Message {
		m := m
		m.Log = in
		out, _ := r.Deliver(m)
		return out
	}}
}

func submits(e pack.Entry) call {
	return call{[]pack.Entry{e}, func(r *replica.Replica, in []pack.Entry) []pack.Message {
		out, _ := r.Submit(in[0])
		return out
	}}
}

func ticks() call {
	return call{nil, func(r *replica.Replica, _ []pack.Entry) []pack.Message { return r.Tick() }}
}

// script is calls that one replica has, one after another.
type script struct {
	c     replica.Config
	s     ledger.State
	calls []call
}

// scripts hand in and tell logs in all ways.
func scripts() []script {
	full := state(0, 0, 2, many(63))
	return []script{
		{config(3, 0), state(0, 0, 1, "XY"), []call{
			submits(entry('Z')), submits(entry('Z')), submits(entry('X')), submits(pack.Entry{}), ticks(), delivers(ack(0, 1, 0, 2)), submits(entry('W')),
			delivers(ask(0, 2, 0, 0)), delivers(ask(0, 1, 0, 0)), delivers(have(0, 2, 0, 0, 0, "XYV")), submits(entry('U')), delivers(tell(0, 2, 0, 1, "XYZWUV")),
		}},
		{config(3, 0), full, []call{submits(entry('X')), submits(entry('Y')), delivers(ask(0, 2, 0, 0))}},
		{config(5, 3), state(2, 2, 1, "XY"), []call{
			delivers(add(2, 2, 3, 3, 2, 'Z')), delivers(add(2, 2, 3, 4, 2, 'W')), delivers(add(2, 2, 3, 4, 2, 'V')), delivers(add(2, 1, 3, 5, 2, 'V')),
			delivers(ask(2, 4, 3, 0)), delivers(tell(2, 0, 3, 3, "XYZWVU")), delivers(tell(2, 0, 3, 3, "XYZ")), delivers(ask(2, 4, 3, 0)),
			delivers(add(2, 2, 3, 7, 2, 'A')), delivers(lead(6, 1, 3, 2, "XYB")), delivers(lead(7, 2, 3, 2, "XYZC")), delivers(add(7, 2, 3, 5, 2, 'D')),
			delivers(tell(9, 2, 3, 2, "XYZE")), delivers(have(9, 2, 3, 2, 2, "XYZE")),
		}},
		{config(5, 4), state(3, 2, 1, "XY"), []call{
			delivers(want(3, 0, 4)), delivers(want(3, 1, 4)), delivers(want(3, 2, 4)), ticks(), ticks(), ticks(), delivers(want(4, 1, 4)), delivers(want(4, 2, 4)),
			delivers(have(4, 1, 4, 2, 1, "XYZ")), delivers(have(4, 2, 4, 1, 1, "XYZW")), submits(entry('V')), delivers(have(4, 3, 4, 2, 1, "XA")), delivers(ask(4, 3, 4, 2)),
		}},
		{config(7, 1), state(7, 6, 1, "XY"), []call{
			delivers(have(8, 2, 1, 2, 1, "XYZ")), delivers(have(8, 3, 1, 2, 1, "AYZW")), delivers(have(8, 2, 1, 2, 1, "XYZWB")), delivers(have(8, 6, 1, 7, 1, "X")), submits(entry('V')), ticks(),
		}},
		{config(3, 2), state(2, 1, 1, "XY"), []call{delivers(have(2, 0, 2, 1, 2, "X")), submits(entry('Z')), delivers(ack(2, 0, 2, 3)), delivers(beat(3, 0, 2, 3, 3)), delivers(tell(3, 1, 2, 3, "XYZW")), ticks()}},
	}
}

// wrongCalls hand in logs that may not be, or that come too late.
func wrongCalls(id, n int) []call {
	var list []call
	for _, e := range wrongEntries() {
		list = append(list, submits(e))
	}
	for _, right := range kinds((id+1)%n, id) {
		for _, m := range spoiltMessages(right) {
			list = append(list, delivers(m))
		}
	}
	for _, m := range kinds((id+1)%n, id) {
		m.View = 0
		list = append(list, delivers(m))
	}
	return list
}

// checkKept holds that a log and all its spare room are as they were.
func checkKept(t *testing.T, log, was []pack.Entry) {
	t.Helper()
	if !reflect.DeepEqual(spare.WholeLog(log), was) {
		t.Fatal("what was handed in is changed")
	}
}

// checkScript has the calls done with roomy lists, and elsewhere with others, and holds that both do the same.
func checkScript(t *testing.T, s script, spoils bool) {
	t.Helper()
	m := &spare.Memory{Spoils: spoils}
	first := s.s
	first.Log = spare.Log(s.s.Log)
	was := spare.WholeLog(first.Log)
	r, clean := made(t, s.c, first), made(t, s.c, s.s)
	checkKept(t, first.Log, was)
	m.Keep(first.Log)
	for _, c := range s.calls {
		in := spare.Log(c.in)
		was := spare.WholeLog(in)
		out := c.do(r, in)
		checkKept(t, in, was)
		checkOut(t, "a call", out, c.do(clean, c.in))
		m.Keep(in)
		for _, said := range out {
			m.Keep(said.Log)
		}
		m.Keep(r.State().Log)
		m.Keep(r.State().Log)
		checkState(t, "a call", r, clean.State(), clean.Role())
	}
	if !m.Sound() {
		t.Fatal("what was handed in or told has changed since, or two lists share")
	}
}

// Rules that hold everywhere: what is handed in is neither changed nor kept, and what is told is new memory: no two messages, no two answers, no answer and an argument share any, and nothing that is written over is seen again.
func TestMemory(t *testing.T) {
	for _, s := range scripts() {
		checkScript(t, s, false)
		checkScript(t, s, true)
	}
}

// Rules that hold everywhere: the same of what is refused, or does nothing.
func TestMemoryWrong(t *testing.T) {
	for id := range 3 {
		for _, s := range []ledger.State{state(5, 5, 1, "XY"), state(5, 4, 1, "XY"), state(6, 6, 1, "XY")} {
			checkScript(t, script{config(3, id), s, wrongCalls(id, 3)}, false)
			checkScript(t, script{config(3, id), s, wrongCalls(id, 3)}, true)
		}
	}
}

// Rules that hold everywhere: a state that isn't right, or beside a config that isn't, is neither changed nor kept.
func TestMemoryNew(t *testing.T) {
	for _, c := range append(wrongConfigs(), config(3, 0)) {
		for _, s := range append(wrongStates(), state(1, 1, 1, "XY")) {
			s.Log = spare.Log(s.Log)
			was := spare.WholeLog(s.Log)
			replica.New(c, s)
			checkKept(t, s.Log, was)
		}
	}
}

// Rules that hold everywhere: two replicas of one state share nothing.
func TestMemoryTwo(t *testing.T) {
	s := state(0, 0, 0, "XY")
	r0, r1 := made(t, config(3, 0), s), made(t, config(3, 0), s)
	checkSubmit(t, r0, entry('Z'), each(3, add(0, 0, 0, 3, 0, 'Z'))...)
	checkState(t, "the other one", r1, s, leader)
	spare.SpoilLog(r0.State().Log)
	checkState(t, "the other one", r1, s, leader)
	if short(s.Log) != "XY" {
		t.Fatal("the state was changed")
	}
}

// Rules that hold everywhere: what is refused changes nothing: behind it all goes on as it would have.
func TestRefusedChangesNothing(t *testing.T) {
	for _, s := range scripts() {
		r, clean := made(t, s.c, s.s), made(t, s.c, s.s)
		for i, c := range s.calls {
			for _, e := range wrongEntries() {
				if out, err := r.Submit(e); err == api.OK || len(out) > 0 {
					t.Fatalf("%+v: %d", e, err)
				}
			}
			view := r.State().View
			for _, right := range kinds((s.c.ID+1)%s.c.N, s.c.ID) {
				right.View += view
				for _, m := range append(spoiltMessages(right), right) {
					if m.Right() {
						m.From = s.c.ID
					}
					checkWrong(t, r, m)
				}
			}
			checkOut(t, "a call", c.do(r, c.in), c.do(clean, c.in))
			checkState(t, "a call", r, clean.State(), clean.Role())
			if i%2 == 0 {
				checkOut(t, "a tick", r.Tick(), clean.Tick())
			}
		}
	}
}
