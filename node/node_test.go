package node_test

import (
	"bytes"
	"math"
	"slices"
	"testing"

	"colander/api"
	"colander/frame"
	"colander/history"
	"colander/ledger"
	"colander/node"
	"colander/pack"
	"colander/replica"
	"colander/rule"
	"colander/sieve"
	"colander/tape"
	"colander/verdict"
)

// The chapter's types, field by field, and its functions, as it lists them.
var (
	_ = struct {
		Client, Request int
		Outcome         history.Outcome
	}(node.Reply{})
	_ = struct {
		E       api.Errno
		Out     []pack.Message
		Replies []node.Reply
	}(node.Answer{})
	_ = struct {
		Ready   bool
		Version int
		Answer  sieve.Answer
	}(node.Said{})
	_                                                                       = struct{ Role, View, Commit, Version, Active int }(node.Status{})
	_ func(c replica.Config, t *tape.Tape) (*node.Node, api.Errno)          = node.Start
	_ func(n *node.Node, client int, request int, d rule.Delta) node.Answer = (*node.Node).Submit
	_ func(n *node.Node) node.Answer                                        = (*node.Node).Tick
	_ func(n *node.Node, m pack.Message) node.Answer                        = (*node.Node).Deliver
	_ func(n *node.Node, version int) api.Errno                             = (*node.Node).Activate
	_ func(n *node.Node, doc []byte, scope int) node.Said                   = (*node.Node).Classify
	_ func(n *node.Node) node.Status                                        = (*node.Node).Status
	_ func(n *node.Node) ledger.State                                       = (*node.Node).State
	_ func(n *node.Node, version int) (rule.Set, bool)                      = (*node.Node).Set
	_ func(n *node.Node) bool                                               = (*node.Node).Stopped
)

const most = api.MaxNumber

// The roles.
const (
	follower = 0
	primary  = 1
	changing = 2
)

// config is one of n, with a Timeout of three ticks.
func config(n, id int) replica.Config { return replica.Config{N: n, ID: id, Timeout: 3} }

// puts is a delta that puts one rule, whose ID is its Action too.
func puts(id int, pattern string) rule.Delta {
	return rule.Delta{Default: -1, Closed: -1, Fuel: -1, Stack: -1, Put: []rule.Rule{{ID: id, Priority: 1, Action: id, Scope: 1, Pattern: pattern}}}
}

// entry is a client's request that puts the rule 1.
func entry(client, request int, pattern string) pack.Entry {
	return pack.Entry{Client: client, Request: request, Delta: puts(1, pattern)}
}

// entries are the requests 1 of clients from 1 on; each puts a rule of the client's number with one of the patterns.
func entries(patterns ...string) []pack.Entry {
	var list []pack.Entry
	for i, pattern := range patterns {
		list = append(list, pack.Entry{Client: i + 1, Request: 1, Delta: puts(i+1, pattern)})
	}
	return list
}

// state is one in the view 0, without an active version.
func state(commit int, log ...pack.Entry) ledger.State {
	return ledger.State{Commit: commit, Log: log}
}

// made is the reply to a request that made a version.
func made(client, request, version int) node.Reply {
	return node.Reply{Client: client, Request: request, Outcome: history.Outcome{Version: version}}
}

// refused is the reply to a request that made none.
func refused(client, request int, code api.Errno, id, at int) node.Reply {
	return node.Reply{Client: client, Request: request, Outcome: history.Outcome{Verdict: verdict.Verdict{Code: code, Rule: id, At: at}}}
}

// ack is another one's message that its log has so many entries.
func ack(view, from, to, op int) pack.Message {
	return pack.Message{Kind: 2, View: view, From: from, To: to, Op: op}
}

// logged is a message of the Kinds 1, 5, 6 or 8, of a log that is so long and of which this is told.
func logged(kind, view, from, to, op, commit int, log ...pack.Entry) pack.Message {
	return pack.Message{Kind: kind, View: view, From: from, To: to, Op: op, Commit: commit, Log: log}
}

// tapeOf is a tape that has a state.
func tapeOf(t *testing.T, s ledger.State) *tape.Tape {
	t.Helper()
	made := tape.New(api.MaxDisk)
	l, _ := ledger.Open(made)
	if e := l.Save(s); e != api.OK {
		t.Fatalf("%+v: %d", s, e)
	}
	return made
}

// framed is a record in a frame.
func framed(r pack.Record) []byte {
	body, _ := pack.EncodeRecord(r)
	b, _ := frame.Make(body)
	return b
}

// checkReplies holds that an answer is OK, and its replies.
func checkReplies(t *testing.T, a node.Answer, want ...node.Reply) {
	t.Helper()
	if a.E != api.OK || !slices.Equal(a.Replies, want) {
		t.Fatalf("%+v, not %+v", a, want)
	}
}

// checkOut holds that an answer is these messages alone.
func checkOut(t *testing.T, a node.Answer, want ...pack.Message) {
	t.Helper()
	if !sameAnswer(a, node.Answer{Out: want}) {
		t.Fatalf("%+v, not %+v", a, want)
	}
}

// checkError holds that an answer is an error, and nothing besides, but for these replies.
func checkError(t *testing.T, a node.Answer, e api.Errno, replies ...node.Reply) {
	t.Helper()
	if !sameAnswer(a, node.Answer{E: e, Replies: replies}) {
		t.Fatalf("%+v, not %d %+v", a, e, replies)
	}
}

// checkStatus holds how a node stands.
func checkStatus(t *testing.T, n *node.Node, want node.Status) {
	t.Helper()
	if got := n.Status(); got != want {
		t.Fatalf("%+v, not %+v", got, want)
	}
}

// The chapter's example, and the first four of the whole.
func TestExamples(t *testing.T) {
	var nodes []*node.Node
	for id := range 3 {
		n, e := node.Start(config(3, id), tape.New(api.MaxDisk))
		if e != api.OK {
			t.Fatal(e)
		}
		nodes = append(nodes, n)
	}
	d := puts(1, "a+b")
	d.Put[0].Action = 9
	a := nodes[0].Submit(1, 1, d)
	e := pack.Entry{Client: 1, Request: 1, Delta: d}
	checkOut(t, a, logged(1, 0, 0, 1, 1, 0, e), logged(1, 0, 0, 2, 1, 0, e))
	acks := nodes[1].Deliver(a.Out[0])
	checkOut(t, acks, ack(0, 1, 0, 1))
	checkReplies(t, nodes[0].Deliver(acks.Out[0]), made(1, 1, 1))
	if said := nodes[0].Classify([]byte("xaab"), 1); said != (node.Said{}) {
		t.Fatalf("%+v, and no version is active", said)
	}
	if e := nodes[0].Activate(1); e != api.OK {
		t.Fatal(e)
	}
	want := node.Said{Ready: true, Version: 1, Answer: sieve.Answer{Action: 9, Rule: 1}}
	if said := nodes[0].Classify([]byte("xaab"), 1); said != want {
		t.Fatalf("%+v, not %+v", said, want)
	}
	nodes[0].Submit(1, 2, puts(2, "("))
	a = nodes[0].Deliver(ack(0, 2, 0, 2))
	checkReplies(t, a, refused(1, 2, api.ErrSyntax, 2, 0))
	checkError(t, nodes[0].Submit(1, 2, puts(2, "(")), api.ErrTwice, a.Replies...)
	checkStatus(t, nodes[0], node.Status{Role: primary, Commit: 2, Version: 1, Active: 1})
	checkStatus(t, nodes[1], node.Status{})
}

// wrongConfigs are those of which a part isn't right.
func wrongConfigs() []replica.Config {
	list := []replica.Config{{}, {N: 3, ID: 3, Timeout: 3}, {N: 5, ID: 5, Timeout: 3}, {N: 7, ID: 7, Timeout: 3}}
	for _, n := range []int{math.MinInt, -3, 0, 1, 2, 4, 6, 8, 9, math.MaxInt} {
		list = append(list, replica.Config{N: n, ID: 0, Timeout: 3})
	}
	for _, n := range []int{math.MinInt, -1, math.MaxInt} {
		list = append(list, replica.Config{N: 3, ID: n, Timeout: 3})
	}
	for _, n := range []int{math.MinInt, -2, 0, 1, 101, math.MaxInt} {
		list = append(list, replica.Config{N: 3, ID: 0, Timeout: n})
	}
	return list
}

// rests are tapes that have a state, and more or less besides; each with the error of opening a ledger on it.
func rests(t *testing.T, s ledger.State) ([]*tape.Tape, []api.Errno) {
	t.Helper()
	var list []*tape.Tape
	for range 7 {
		list = append(list, tapeOf(t, s))
	}
	junk := framed(pack.Record{Kind: 1, A: 9, B: 9})[:30]
	list[1].Append(junk)
	list[2].Append(junk)
	list[2].Sync()
	list[2].Arm(1)
	list[3].Arm(0) // it goes down at the next call, and there is none
	list[4].Arm(0)
	list[4].Sync() // it is down, and all that it has is whole
	list[5].Arm(0)
	list[5].Append(junk) // it is down
	list[6].Append(junk)
	list[6].Arm(0) // it goes down when the bytes are to be trimmed off
	return list, []api.Errno{api.OK, api.OK, api.OK, api.OK, api.OK, api.ErrDown, api.ErrDown}
}

// P16.1: the tape's error, if what is no record there can't be trimmed off; ahead of the config's.
func TestStartErrors(t *testing.T) {
	for _, s := range []ledger.State{{}, {View: 1, Log: entries("a", "b"), Commit: 1}} {
		tapes, errors := rests(t, s)
		for i, on := range tapes {
			n, e := node.Start(config(3, 1), on)
			if e != errors[i] || (n == nil) != (e != api.OK) {
				t.Fatalf("tape %d: %v %d, not %d", i, n, e, errors[i])
			}
			if n != nil && !sameState(n.State(), s) {
				t.Fatalf("tape %d: %+v, not %+v", i, n.State(), s)
			}
		}
		for _, c := range wrongConfigs() {
			tapes, errors := rests(t, s)
			for i, on := range tapes {
				want := max(errors[i], api.ErrForm) // the tape's ErrDown is the greater one
				if n, e := node.Start(c, on); n != nil || e != want {
					t.Fatalf("%+v, tape %d: %v %d, not %d", c, i, n, e, want)
				}
			}
		}
	}
}

// P16.1: the configs at their ends are right.
func TestStartConfigs(t *testing.T) {
	for _, n := range []int{3, 5, 7} {
		for id := range n {
			for _, timeout := range []int{2, 100} {
				x := paired(t, replica.Config{N: n, ID: id, Timeout: timeout}, state(1, entries("a")...))
				for range timeout - 1 {
					x.tick(t)
				}
				was := x.n.Status().View
				if a := x.tick(t); len(a.Out) != n-1 || (x.n.Status().View == was) != (id == 0) {
					t.Fatalf("%d %d %d: %+v", n, id, timeout, a)
				}
			}
		}
	}
}

// P16.1: beside ErrForm a tape on which all is whole stays as it is: nothing is written, and no call is made on it.
func TestStartRefused(t *testing.T) {
	s := ledger.State{View: 1, Log: entries("a", "b"), Commit: 1}
	for _, c := range wrongConfigs() {
		on, was := tapeOf(t, s), tapeOf(t, s)
		on.Append(framed(pack.Record{Kind: 4, A: 2}))
		on.Arm(0)
		node.Start(c, on)
		if on.Safe() != was.Safe() || len(on.Bytes()) != was.Safe()+34 || on.Down() {
			t.Fatalf("%+v: %d of %d bytes are safe", c, on.Safe(), len(on.Bytes()))
		}
	}
}

// P16.1: what stands behind the last whole record, or can't be applied, is trimmed off the tape; the state is what stands ahead of it.
func TestStartTrims(t *testing.T) {
	s := ledger.State{View: 3, Normal: 2, Log: entries("a", "("), Commit: 2, Active: 1}
	whole := framed(pack.Record{Kind: 1, A: 4, B: 3})
	list := [][]byte{framed(pack.Record{Kind: 1, A: 2, B: 2}), framed(pack.Record{Kind: 3, A: 1}), framed(pack.Record{Kind: 4, A: 3}), framed(pack.Record{Kind: 5, A: api.MaxLog + 1}), {0}, make([]byte, 2000)}
	for cut := range whole {
		list = append(list, whole[:cut], slices.Concat(whole[:cut], []byte{whole[cut] ^ 1}, whole[cut+1:], whole))
	}
	for _, rest := range list {
		one, two := tapeOf(t, s), tapeOf(t, s)
		one.Append(rest)
		two.Append(rest)
		x := pairedOn(t, config(3, 0), one, two)
		if was := tapeOf(t, s); !sameState(x.n.State(), s) || !bytes.Equal(one.Bytes(), was.Bytes()) {
			t.Fatalf("% x: %+v, %d bytes", rest, x.n.State(), len(one.Bytes()))
		}
	}
	one, two := tapeOf(t, s), tapeOf(t, s)
	one.Append(slices.Concat(whole, whole[:33]))
	two.Append(slices.Concat(whole, whole[:33]))
	x := pairedOn(t, config(3, 0), one, two)
	checkStatus(t, x.n, node.Status{Role: changing, View: 4, Commit: 2, Version: 1, Active: 1})
}

// P16.1 and P16.5: a node has what its tape has: the view and Normal, by which its role is; Commit, and the versions that came of that alone; Active.
func TestStartState(t *testing.T) {
	log := entries("a", "(", "b", "c", "d")
	versions := []int{0, 1, 1, 2, 3, 4}
	for id := range 3 {
		for view := range 5 {
			for normal := range view + 1 {
				for commit := range len(log) + 1 {
					s := ledger.State{View: view, Normal: normal, Commit: commit, Active: (view + commit) % 6, Log: log}
					role := changing
					if view == normal {
						role = follower
						if view%3 == id {
							role = primary
						}
					}
					x := paired(t, config(3, id), s)
					checkStatus(t, x.n, node.Status{Role: role, View: view, Commit: commit, Version: versions[commit], Active: s.Active})
					if !sameState(x.n.State(), s) {
						t.Fatalf("%+v, not %+v", x.n.State(), s)
					}
				}
			}
		}
	}
	s := ledger.State{View: most, Normal: most, Commit: 64, Active: 64, Log: slices.Repeat(entries("a"), 64)}
	x := paired(t, config(3, most%3), s)
	checkStatus(t, x.n, node.Status{Role: primary, View: most, Commit: 64, Version: 1, Active: 64})
}

// P16.1: a node that is started makes no replies to what was committed before; only to what comes then.
func TestStartNoReplies(t *testing.T) {
	x := paired(t, config(3, 0), state(2, entries("a", "b", "c")...))
	checkReplies(t, x.tick(t))
	checkReplies(t, x.deliver(t, ack(0, 1, 0, 2)))
	checkReplies(t, x.deliver(t, ack(0, 1, 0, 3)), made(3, 1, 3))
}

// P16.5: the sets of all versions, and of no others.
func TestSet(t *testing.T) {
	x := paired(t, config(3, 0), state(0, entries("a", "(", "b")...))
	for op := range 4 {
		x.deliver(t, ack(0, 1, 0, op))
		h, _ := past(state(op, entries("a", "(", "b")...))
		for _, version := range []int{math.MinInt, -1, 0, 1, 2, 3, math.MaxInt} {
			set, ok := x.n.Set(version)
			want, there := h.Set(version)
			if ok != there || !sameSet(set, want) {
				t.Fatalf("the version %d: %+v %v", version, set, ok)
			}
		}
	}
	set, ok := x.n.Set(2)
	if want := append(puts(1, "a").Put, puts(3, "b").Put...); !ok || !slices.Equal(set.Rules, want) || set.Closed != 255 {
		t.Fatalf("%+v, not %+v", set, want)
	}
}
