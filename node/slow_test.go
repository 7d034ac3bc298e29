package node_test

import (
	"math/rand"
	"slices"
	"testing"

	"colander/api"
	"colander/ledger"
	"colander/node"
	"colander/pack"
	"colander/replica"
)

// patterns are what grown rules have; some may not be used.
var patterns = []string{"a", "b", "a+b", "[^a]", "(?:a|a)*c", "", "(", "a**", "(?<=a*)"}

// grownEntry is a client's request of any outcome, mostly one above those so far.
func grownEntry(rng *rand.Rand, view, requests int) pack.Entry {
	e := pack.Entry{View: view, Client: 1 + rng.Intn(3), Request: max(1, requests+1-rng.Intn(3)), Delta: puts(1+rng.Intn(18), patterns[rng.Intn(len(patterns))])}
	switch rng.Intn(8) {
	case 0:
		e.Delta.Drop = []int{1 + rng.Intn(18)}
	case 1:
		e.Delta.Fuel = rng.Intn(40)
	}
	return e
}

// grownLog comes of another one: a beginning of it, and more.
func grownLog(rng *rand.Rand, s ledger.State, more int) []pack.Entry {
	list := slices.Clone(s.Log)
	if rng.Intn(3) == 0 {
		list = list[:rng.Intn(len(list)+1)]
	}
	for range rng.Intn(more + 1) {
		list = append(list, grownEntry(rng, s.View, len(list)))
	}
	return list[:min(len(list), api.MaxLog)]
}

// grownState is any right one of a small view; its active version may be there or not.
func grownState(rng *rand.Rand, c replica.Config) ledger.State {
	s := ledger.State{View: rng.Intn(3 * c.N), Active: rng.Intn(4)}
	s.Log = grownLog(rng, s, []int{3, 6, 6, 9, 9, 80}[rng.Intn(6)])
	s.Commit = rng.Intn(len(s.Log) + 1)
	s.Normal = s.View
	if rng.Intn(2) == 0 {
		s.Normal = max(0, s.View-rng.Intn(3))
	}
	return s
}

// grownMessage is one that may concern a node in a state.
func grownMessage(rng *rand.Rand, c replica.Config, s ledger.State) pack.Message {
	near := func(n int) int { return min(max(n+rng.Intn(5)-2, 0), api.MaxLog) }
	m := pack.Message{Kind: []int{1, 2, 2, 2, 3, 4, 5, 6, 7, 8}[rng.Intn(10)], View: s.View, From: rng.Intn(c.N), To: c.ID, Op: near(len(s.Log)), Commit: near(s.Commit), Normal: max(0, s.View-rng.Intn(2))}
	if rng.Intn(6) == 0 {
		m.View += rng.Intn(c.N)
	}
	if rng.Intn(2) == 0 {
		m.From = m.View % c.N
	}
	switch m.Kind {
	case 1:
		m.Log = []pack.Entry{grownEntry(rng, m.View, len(s.Log))}
	case 5, 6, 8:
		m.Log = grownLog(rng, s, 3)
	}
	return m
}

// tally is what came about, and how often.
type tally map[string]int

func (n tally) add(what string, comes bool) {
	if comes {
		n[what]++
	}
}

// answer counts what stands in an answer.
func (n tally) answer(x *pair, a node.Answer) {
	n.add("replies", len(a.Replies) > 0 && a.E == api.OK)
	n.add("several replies", len(a.Replies) > 1)
	n.add("a reply again", len(a.Replies) > 0 && a.E == api.ErrTwice)
	n.add("ErrTwice alone", len(a.Replies) == 0 && a.E == api.ErrTwice)
	n.add("stopped", a.E == api.ErrDown)
	n.add("full", a.E == api.ErrSpace)
	n.add("messages", len(a.Out) > 0)
	n.add("primary", x.n.Status().Role == primary)
}

// grownCall is one of any kind; it says what came about.
func grownCall(t *testing.T, rng *rand.Rand, x *pair, n tally) {
	t.Helper()
	s := x.p.kept()
	switch rng.Intn(16) {
	case 0, 1:
		n.answer(x, x.tick(t))
	case 2, 3, 4:
		e := grownEntry(rng, 0, rng.Intn(len(s.Log)+1))
		if len(s.Log) > 0 && rng.Intn(3) == 0 {
			e = s.Log[rng.Intn(len(s.Log))]
		}
		n.answer(x, x.submit(t, e.Client, e.Request, e.Delta))
	case 5:
		n.add("active", x.activate(t, rng.Intn(6)-1) == api.OK)
	case 6, 7:
		said := x.classify(t, []string{"", "ab", "xaab", "aaaaaaaaaaaa", "c"}[rng.Intn(5)], rng.Intn(4)-1)
		n.add("said", said.Ready)
		n.add("said nothing", !said.Ready)
		n.add("a budget that is over", said.Answer.Budget)
	default:
		n.answer(x, x.deliver(t, grownMessage(rng, x.c, s)))
	}
}

// mishap is something of the tape's.
func mishap(t *testing.T, rng *rand.Rand, x *pair, n tally) {
	t.Helper()
	switch rng.Intn(3) {
	case 0:
		x.arm(rng.Intn(4))
	default:
		turn := make([]byte, rng.Intn(200))
		if len(turn) > 0 {
			turn[rng.Intn(len(turn))] = byte(rng.Intn(256))
		}
		x.crash(rng.Intn(400), turn)
		n.add("started", x.start(t) == api.OK)
	}
}

// Many calls of all kinds, one after another, and mishaps of the tape between: the node does what the second way does; and what is looked for does come about.
func TestSlowGrown(t *testing.T) {
	rng := rand.New(rand.NewSource(16))
	n := tally{}
	for range 600 {
		size := 3 + 2*rng.Intn(3)
		c := replica.Config{N: size, ID: rng.Intn(size), Timeout: 2 + rng.Intn(3)}
		s := grownState(rng, c)
		if rng.Intn(2) == 0 {
			s.View = max(c.ID, s.View/c.N*c.N+c.ID)
			s.Normal = s.View
		}
		x := paired(t, c, s)
		if rng.Intn(4) == 0 {
			one, two := roomy(t, s, rng.Intn(3000))
			x = pairedOn(t, c, one, two)
		}
		for range 30 {
			if rng.Intn(20) == 0 || x.n.Stopped() && rng.Intn(4) == 0 {
				mishap(t, rng, x, n)
			}
			grownCall(t, rng, x, n)
		}
	}
	for _, what := range []string{"replies", "several replies", "a reply again", "ErrTwice alone", "stopped", "full", "messages", "primary", "active", "said", "said nothing", "a budget that is over", "started"} {
		if n[what] < 20 {
			t.Errorf("%s: %d times only", what, n[what])
		}
	}
}
