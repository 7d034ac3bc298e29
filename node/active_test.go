package node_test

import (
	"math"
	"strings"
	"testing"

	"colander/api"
	"colander/ledger"
	"colander/node"
	"colander/pack"
	"colander/rule"
	"colander/sieve"
)

// checkActive holds what Activate answers, and which version is active then.
func checkActive(t *testing.T, x *pair, version int, e api.Errno, active int) {
	t.Helper()
	if got := x.activate(t, version); got != e || x.n.State().Active != active || x.n.Status().Active != active {
		t.Fatalf("activate %d: %d, not %d; active is %d", version, got, e, x.n.State().Active)
	}
}

// P16.3: a version from 1 to the newest one is active from then on, an elder one too, the same one again; ErrVersion for all others, which leaves the active one as it is.
func TestActivate(t *testing.T) {
	log := entries("a", "(", "b", "c", "d")
	for id := range 3 {
		x := paired(t, config(3, id), state(4, log...))
		active := 0
		for _, version := range []int{0, 1, 0, 4, 2, 3, 3, 5, 2, math.MinInt, 1, -1, math.MaxInt, 3, 4, 64, 65, 1, 1} {
			want := api.ErrVersion
			if 1 <= version && version <= 3 {
				want, active = api.OK, version
			}
			checkActive(t, x, version, want, active)
		}
	}
}

// P16.3: a version may be active as soon as it is committed, and not earlier; of a history without versions none may.
func TestActivateNew(t *testing.T) {
	log := entries("a", "(", "b")
	x := paired(t, config(3, 0), state(0, log...))
	checkActive(t, x, 1, api.ErrVersion, 0)
	x.deliver(t, ack(0, 1, 0, 1))
	checkActive(t, x, 2, api.ErrVersion, 0)
	checkActive(t, x, 1, api.OK, 1)
	x.deliver(t, ack(0, 1, 0, 2))
	checkActive(t, x, 2, api.ErrVersion, 1)
	x.deliver(t, ack(0, 1, 0, 3))
	checkStatus(t, x.n, node.Status{Role: primary, Commit: 3, Version: 2, Active: 1})
	checkActive(t, x, 2, api.OK, 2)
}

// P16.3: the greatest version that there may be.
func TestActivateMost(t *testing.T) {
	var log []pack.Entry
	for i := range 64 {
		log = append(log, entry(1, i+1, "a"))
	}
	x := paired(t, config(3, 0), state(64, log...))
	checkActive(t, x, 65, api.ErrVersion, 0)
	checkActive(t, x, 64, api.OK, 64)
	checkActive(t, x, 63, api.OK, 63)
}

// P16.3: which version is active is no other node's matter, nor the replica's: it stays through all that comes, and through a start.
func TestActivateStays(t *testing.T) {
	log := entries("a", "b", "c", "d")
	x := paired(t, config(3, 1), state(2, log[:2]...))
	checkActive(t, x, 2, api.OK, 2)
	for _, m := range []pack.Message{logged(1, 0, 0, 1, 3, 2, log[2]), logged(3, 0, 0, 1, 3, 3), {Kind: 4, View: 1, From: 0, To: 1}, logged(5, 1, 2, 1, 4, 3, log...), ack(1, 2, 1, 4), logged(6, 2, 2, 1, 4, 4, log...)} {
		x.deliver(t, m)
		if s := x.n.State(); s.Active != 2 {
			t.Fatalf("%+v: %+v", m, s)
		}
	}
	x.crash(0, nil)
	x.start(t)
	checkStatus(t, x.n, node.Status{View: 2, Commit: 4, Version: 4, Active: 2})
	checkActive(t, x, 1, api.OK, 1)
	x.crash(0, nil)
	x.start(t)
	checkStatus(t, x.n, node.Status{View: 2, Commit: 4, Version: 4, Active: 1})
}

// P16.3: a stopped node has ErrDown ahead of ErrVersion.
func TestActivateStopped(t *testing.T) {
	x := paired(t, config(3, 0), state(2, entries("a", "b")...))
	x.arm(0)
	if e := x.activate(t, 1); e != api.ErrDown || !x.n.Stopped() {
		t.Fatal(e)
	}
	for _, version := range []int{-1, 0, 1, 2, 3} {
		if e := x.activate(t, version); e != api.ErrDown {
			t.Fatalf("%d: %d", version, e)
		}
	}
	x.crash(0, nil)
	x.start(t)
	checkActive(t, x, 1, api.OK, 1)
}

// checkSaid holds what is said of a text.
func checkSaid(t *testing.T, x *pair, doc string, scope, version int, want sieve.Answer) {
	t.Helper()
	if got := x.classify(t, doc, scope); got != (node.Said{Ready: true, Version: version, Answer: want}) {
		t.Fatalf("%.40q %d: %+v, not %d %+v", doc, scope, got, version, want)
	}
}

// checkNotReady holds that nothing is said of any text.
func checkNotReady(t *testing.T, x *pair) {
	t.Helper()
	for _, doc := range []string{"", "ab", strings.Repeat("a", api.MaxText+1)} {
		for _, scope := range []int{-1, 0, 1} {
			if said := x.classify(t, doc, scope); said != (node.Said{}) {
				t.Fatalf("%.40q: %+v", doc, said)
			}
		}
	}
}

// P16.4: nothing is said till a version is active, however many there are.
func TestClassifyNone(t *testing.T) {
	log := entries("a", "b")
	x := paired(t, config(3, 0), state(0, log...))
	for op := range 3 {
		x.deliver(t, ack(0, 1, 0, op))
		x.activate(t, 0)
		x.activate(t, 3)
		checkNotReady(t, x)
	}
	x.activate(t, 1)
	checkSaid(t, x, "ab", 1, 1, sieve.Answer{Action: 1, Rule: 1})
}

// P16.4: nor while the active version isn't in the history yet; as soon as it is it says something.
func TestClassifyNotYet(t *testing.T) {
	log := entries("a", "(", "b", "c")
	for active := 1; active <= 3; active++ {
		s := state(0, log...)
		s.Active = active
		x := paired(t, config(3, 0), s)
		for op := range 5 {
			x.deliver(t, ack(0, 1, 0, op))
			if []int{0, 1, 1, 2, 3}[op] < active {
				checkNotReady(t, x)
				continue
			}
			checkSaid(t, x, "xxcba", 1, active, sieve.Answer{Action: 1, Rule: 1})
		}
	}
	s := state(4, log...)
	s.Active = 4
	checkNotReady(t, paired(t, config(3, 0), s))
}

// P16.4: what is said is what the active version's set says, as layer 9 has it: by the scope, the rules' order, their budget, and for a text that is too large.
func TestClassify(t *testing.T) {
	d := puts(3, "b")
	d.Default, d.Closed, d.Fuel = 40, 50, 200
	d.Put[0].Scope = 2
	d.Put = append(d.Put, rule.Rule{ID: 4, Priority: 2, Action: 4, Scope: 12, Pattern: "(?:a|a)*c"})
	x := paired(t, config(3, 2), state(2, entry(1, 1, "a+b"), pack.Entry{Client: 1, Request: 2, Delta: d}))
	large := strings.Repeat("a", api.MaxText)
	x.activate(t, 1)
	checkSaid(t, x, "xaab", 1, 1, sieve.Answer{Action: 1, Rule: 1})
	checkSaid(t, x, "xaab", 2, 1, sieve.Answer{})
	checkSaid(t, x, "", 1, 1, sieve.Answer{})
	checkSaid(t, x, large+"b", 1, 1, sieve.Answer{Kind: 1})
	x.activate(t, 2)
	checkSaid(t, x, "xaab", 1, 2, sieve.Answer{Action: 1, Rule: 1})
	checkSaid(t, x, "xaab", 2, 2, sieve.Answer{Action: 3, Rule: 3})
	checkSaid(t, x, "xaab", 3, 2, sieve.Answer{Action: 1, Rule: 1})
	checkSaid(t, x, "xaab", 4, 2, sieve.Answer{Action: 40})
	checkSaid(t, x, "c", 9, 2, sieve.Answer{Action: 4, Rule: 4})
	checkSaid(t, x, strings.Repeat("a", 20), 8, 2, sieve.Answer{Action: 50, Rule: 4, Budget: true})
	checkSaid(t, x, "xaab", 0, 2, sieve.Answer{Action: 40})
	checkSaid(t, x, "xaab", -1, 2, sieve.Answer{Action: 1, Rule: 1})
	checkSaid(t, x, "xaab", math.MinInt, 2, sieve.Answer{Action: 40})
	checkSaid(t, x, large, 2, 2, sieve.Answer{Action: 50, Rule: 3, Budget: true})
	checkSaid(t, x, large, 16, 2, sieve.Answer{Action: 40})
	checkSaid(t, x, large+"b", 2, 2, sieve.Answer{Kind: 1})
}

// P16.4: each version says what its own set says, in whatever order they are asked, and however often.
func TestClassifyVersions(t *testing.T) {
	x := paired(t, config(3, 0), state(4, entry(1, 1, "a"), entry(1, 2, "b"), entry(1, 3, "a"), entry(1, 4, "[ab]")))
	one, none := sieve.Answer{Action: 1, Rule: 1}, sieve.Answer{}
	says := []map[string]sieve.Answer{{}, {"a": one, "b": none}, {"a": none, "b": one}, {"a": one, "b": none}, {"a": one, "b": one}}
	for _, version := range []int{4, 2, 1, 2, 2, 3, 1, 4, 3, 2, 4} {
		x.activate(t, version)
		for _, doc := range []string{"a", "b", "a"} {
			checkSaid(t, x, doc, 1, version, says[version][doc])
		}
	}
	x.crash(0, nil)
	x.start(t)
	checkSaid(t, x, "b", 1, 4, one)
}

// P16.4: what comes later leaves what the active version says as it is; a refused version, too.
func TestClassifyStays(t *testing.T) {
	log := []pack.Entry{entry(1, 1, "a"), entry(1, 2, "b"), entry(1, 3, "c")}
	x := paired(t, config(3, 0), state(1, log...))
	x.activate(t, 1)
	for op := range 4 {
		x.deliver(t, ack(0, 1, 0, op))
		x.activate(t, 4)
		x.activate(t, 0)
		checkSaid(t, x, "bca", 1, 1, sieve.Answer{Action: 1, Rule: 1})
		checkSaid(t, x, "bc", 1, 1, sieve.Answer{})
	}
}

// P16.4: a node says it whatever its role is; a text that was asked for changes nothing.
func TestClassifyRoles(t *testing.T) {
	for id := range 3 {
		for view := range 4 {
			for normal := range view + 1 {
				s := ledger.State{View: view, Normal: normal, Commit: 2, Active: 2, Log: entries("a", "b")}
				x := paired(t, config(3, id), s)
				x.arm(0)
				checkSaid(t, x, "b", 1, 2, sieve.Answer{Action: 2, Rule: 2})
				if !sameState(x.n.State(), s) || x.tape.Down() {
					t.Fatalf("%+v", x.n.State())
				}
			}
		}
	}
}

// P16.4: a stopped node says nothing, whatever was active, or was to be.
func TestClassifyStopped(t *testing.T) {
	for _, m := range changes() {
		m.s.Commit, m.s.Active = max(m.s.Commit, 1), 1
		x := paired(t, m.c, m.s)
		checkSaid(t, x, "a", 1, 1, sieve.Answer{Action: 1, Rule: 1})
		x.down()
		m.do(t, x)
		if !x.n.Stopped() {
			if m.name != "activate" {
				t.Fatalf("%s: it isn't stopped", m.name)
			}
			continue
		}
		checkNotReady(t, x)
		x.crash(0, nil)
		checkNotReady(t, x)
		x.start(t)
		checkSaid(t, x, "a", 1, 1, sieve.Answer{Action: 1, Rule: 1})
	}
}
