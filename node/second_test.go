package node_test

import (
	"bytes"
	"fmt"
	"reflect"
	"slices"
	"testing"

	"colander/api"
	"colander/history"
	"colander/ledger"
	"colander/node"
	"colander/pack"
	"colander/replica"
	"colander/rule"
	"colander/sieve"
	"colander/tape"
)

// second is the chapter a second time: beside a replica of layer 15 it has no more than its tape, and works all else out of that each time it is asked.
type second struct {
	r       *replica.Replica
	tape    *tape.Tape
	stopped bool
}

// kept is the state that its tape has.
func (p *second) kept() ledger.State {
	l, _ := ledger.Open(p.tape)
	return l.State()
}

// past is what came of all that a state has committed.
func past(s ledger.State) (*history.History, []node.Reply) {
	h := history.New()
	var list []node.Reply
	for _, e := range s.Log[:s.Commit] {
		o, _ := h.Add(e)
		list = append(list, node.Reply{Client: e.Client, Request: e.Request, Outcome: o})
	}
	return h, list
}

func (p *second) start(c replica.Config) api.Errno {
	l, e := ledger.Open(p.tape)
	if e != api.OK {
		return e
	}
	p.stopped = false
	p.r, e = replica.New(c, l.State())
	return e
}

func (p *second) save(s ledger.State) api.Errno {
	l, _ := ledger.Open(p.tape)
	e := l.Save(s)
	p.stopped = e != api.OK
	return e
}

// step is what comes of a step in which the replica said this.
func (p *second) step(out []pack.Message, e api.Errno) node.Answer {
	was := p.kept()
	s := p.r.State()
	s.Active = was.Active
	if e == api.OK {
		e = p.save(s)
	}
	if e != api.OK {
		return node.Answer{E: e}
	}
	a := node.Answer{Out: out}
	if _, all := past(s); p.r.Role() == 1 {
		a.Replies = all[was.Commit:]
	}
	return a
}

func (p *second) submit(client, request int, d rule.Delta) node.Answer {
	if p.stopped {
		return node.Answer{E: api.ErrDown}
	}
	out, e := p.r.Submit(pack.Entry{Client: client, Request: request, Delta: d})
	if e != api.ErrTwice {
		return p.step(out, e)
	}
	a := node.Answer{E: e}
	_, all := past(p.kept())
	for _, r := range slices.Backward(all) {
		if r.Client == client && r.Request > request {
			return node.Answer{E: e}
		}
		if r.Client == client && r.Request == request {
			a.Replies = []node.Reply{r} // the first one that there was is the last one here
		}
	}
	return a
}

func (p *second) tick() node.Answer {
	if p.stopped {
		return node.Answer{E: api.ErrDown}
	}
	return p.step(p.r.Tick(), api.OK)
}

func (p *second) deliver(m pack.Message) node.Answer {
	if p.stopped {
		return node.Answer{E: api.ErrDown}
	}
	return p.step(p.r.Deliver(m))
}

func (p *second) activate(version int) api.Errno {
	if p.stopped {
		return api.ErrDown
	}
	s := p.kept()
	if h, _ := past(s); version <= 0 || version > h.Version() {
		return api.ErrVersion
	}
	s.Active = version
	return p.save(s)
}

func (p *second) classify(doc []byte, scope int) node.Said {
	if p.stopped {
		return node.Said{}
	}
	s := p.kept()
	h, _ := past(s)
	set, ok := h.Set(s.Active)
	if !ok || s.Active == 0 {
		return node.Said{}
	}
	v, _ := sieve.Make(set)
	return node.Said{Ready: true, Version: s.Active, Answer: v.Classify(doc, scope)}
}

// pair is a node, and the second way beside it, each on a tape of its own.
type pair struct {
	c    replica.Config
	n    *node.Node
	tape *tape.Tape
	p    *second
}

// paired is one whose tapes have a state.
func paired(t *testing.T, c replica.Config, s ledger.State) *pair {
	t.Helper()
	return pairedOn(t, c, tapeOf(t, s), tapeOf(t, s))
}

// pairedOn is one on two tapes that are the same.
func pairedOn(t *testing.T, c replica.Config, one, two *tape.Tape) *pair {
	t.Helper()
	x := &pair{c: c, tape: one, p: &second{tape: two}}
	if e := x.start(t); e != api.OK {
		t.Fatalf("%+v: %d", c, e)
	}
	return x
}

// start starts both on their tapes.
func (x *pair) start(t *testing.T) api.Errno {
	t.Helper()
	n, e := node.Start(x.c, x.tape)
	if want := x.p.start(x.c); e != want || (n == nil) != (e != api.OK) {
		t.Fatalf("%+v: %v %d, not %d", x.c, n, e, want)
	}
	x.n = n
	if e == api.OK {
		x.check(t, "start")
	}
	return e
}

// arm arms both tapes.
func (x *pair) arm(n int) {
	x.tape.Arm(n)
	x.p.tape.Arm(n)
}

// down takes the power of both tapes away, while the nodes do nothing.
func (x *pair) down() {
	x.arm(0)
	x.tape.Sync()
	x.p.tape.Sync()
}

// crash takes the power of both tapes away, and brings it back.
func (x *pair) crash(keep int, turn []byte) {
	x.tape.Crash(keep, turn)
	x.p.tape.Crash(keep, turn)
}

// check holds that both nodes, and both tapes, are the same; of what a stopped one tells nothing is promised.
func (x *pair) check(t *testing.T, what string) {
	t.Helper()
	a, b := x.tape, x.p.tape
	if !bytes.Equal(a.Bytes(), b.Bytes()) || a.Safe() != b.Safe() || a.Down() != b.Down() {
		t.Fatalf("%s: on the tape are %d bytes, %d safe, not %d, %d", what, len(a.Bytes()), a.Safe(), len(b.Bytes()), b.Safe())
	}
	if x.n.Stopped() != x.p.stopped {
		t.Fatalf("%s: stopped: %v", what, x.n.Stopped())
	}
	if x.p.stopped {
		x.n.State()
		x.n.Status()
		x.n.Set(1)
		return
	}
	s := x.p.kept()
	h, _ := past(s)
	if got := x.n.State(); !sameState(got, s) {
		t.Fatalf("%s: %+v, not %+v", what, got, s)
	}
	want := node.Status{Role: x.p.r.Role(), View: s.View, Commit: s.Commit, Version: h.Version(), Active: s.Active}
	if got := x.n.Status(); got != want {
		t.Fatalf("%s: %+v, not %+v", what, got, want)
	}
	for version := -1; version <= h.Version()+1; version++ {
		set, ok := x.n.Set(version)
		due, there := h.Set(version)
		if ok != there || !sameSet(set, due) {
			t.Fatalf("%s: the version %d: %+v %v, not %+v %v", what, version, set, ok, due, there)
		}
	}
}

// answered holds an answer, and all else behind it.
func (x *pair) answered(t *testing.T, what string, got, want node.Answer) node.Answer {
	t.Helper()
	if !sameAnswer(got, want) {
		t.Fatalf("%s: %+v, not %+v", what, got, want)
	}
	x.check(t, what)
	return got
}

func (x *pair) submit(t *testing.T, client, request int, d rule.Delta) node.Answer {
	t.Helper()
	what := fmt.Sprintf("submit %d %d", client, request)
	return x.answered(t, what, x.n.Submit(client, request, d), x.p.submit(client, request, d))
}

func (x *pair) tick(t *testing.T) node.Answer {
	t.Helper()
	return x.answered(t, "tick", x.n.Tick(), x.p.tick())
}

func (x *pair) deliver(t *testing.T, m pack.Message) node.Answer {
	t.Helper()
	return x.answered(t, fmt.Sprintf("deliver %+v", m), x.n.Deliver(m), x.p.deliver(m))
}

func (x *pair) activate(t *testing.T, version int) api.Errno {
	t.Helper()
	got, want := x.n.Activate(version), x.p.activate(version)
	if got != want {
		t.Fatalf("activate %d: %d, not %d", version, got, want)
	}
	x.check(t, fmt.Sprintf("activate %d", version))
	return got
}

func (x *pair) classify(t *testing.T, doc string, scope int) node.Said {
	t.Helper()
	got, want := x.n.Classify([]byte(doc), scope), x.p.classify([]byte(doc), scope)
	if got != want {
		t.Fatalf("classify %.40q %d: %+v, not %+v", doc, scope, got, want)
	}
	x.check(t, "classify")
	return got
}

// sameState takes nil and empty lists as one.
func sameState(a, b ledger.State) bool {
	log := pack.Same(a.Log, b.Log)
	a.Log, b.Log = nil, nil
	return log && reflect.DeepEqual(a, b)
}

// sameSet takes nil and empty lists as one.
func sameSet(a, b rule.Set) bool {
	list := slices.Equal(a.Rules, b.Rules)
	a.Rules, b.Rules = nil, nil
	return list && reflect.DeepEqual(a, b)
}

// sameMessage takes nil and empty lists as one.
func sameMessage(a, b pack.Message) bool {
	log := pack.Same(a.Log, b.Log)
	a.Log, b.Log = nil, nil
	return log && reflect.DeepEqual(a, b)
}

// sameAnswer takes nil and empty lists as one.
func sameAnswer(a, b node.Answer) bool {
	return a.E == b.E && slices.EqualFunc(a.Out, b.Out, sameMessage) && slices.Equal(a.Replies, b.Replies)
}
