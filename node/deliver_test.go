package node_test

import (
	"testing"

	"colander/api"
	"colander/ledger"
	"colander/node"
	"colander/pack"
)

// P16.2: a primary's tick says to all that it is there; another one's begins the next view when it is the Timeout's; nobody is replied to.
func TestTick(t *testing.T) {
	x := paired(t, config(3, 0), state(1, entries("a", "b")...))
	for range 5 {
		beat := pack.Message{Kind: 3, Op: 2, Commit: 1}
		one, two := beat, beat
		one.To, two.To = 1, 2
		checkOut(t, x.tick(t), one, two)
	}
	x = paired(t, config(3, 2), state(1, entries("a", "b")...))
	for view := 1; view < 4; view++ {
		checkOut(t, x.tick(t))
		checkOut(t, x.tick(t))
		checkOut(t, x.tick(t), pack.Message{Kind: 4, View: view, From: 2, To: 0}, pack.Message{Kind: 4, View: view, From: 2, To: 1})
		checkStatus(t, x.n, node.Status{Role: changing, View: view, Commit: 1, Version: 1})
	}
}

// wrongMessages are those that the node 1 of three doesn't take.
func wrongMessages() []pack.Message {
	return []pack.Message{
		{}, {Kind: 0, To: 1}, {Kind: 9, To: 1}, {Kind: 3, From: 1, To: 1}, {Kind: 3, From: 0, To: 0}, {Kind: 3, From: 0, To: 2}, {Kind: 3, From: 3, To: 1},
		{Kind: 1, To: 1, Op: 1}, {Kind: 3, To: 1, View: -1}, {Kind: 3, To: 1, View: most + 1}, {Kind: 6, To: 1, Op: 1, Log: []pack.Entry{{}}}, {Kind: 3, To: 1, Log: entries("a")},
	}
}

// P16.2: ErrForm of a message that isn't right, or not for it; nothing changes by that.
func TestDeliverWrong(t *testing.T) {
	for _, s := range []ledger.State{{}, {View: 1, Normal: 1}, {View: 2, Normal: 1, Log: entries("a"), Commit: 1}} {
		x := paired(t, config(3, 1), s)
		for _, m := range wrongMessages() {
			checkError(t, x.deliver(t, m), api.ErrForm)
			if !sameState(x.n.State(), s) {
				t.Fatalf("%+v: %+v, not %+v", m, x.n.State(), s)
			}
		}
	}
}

// P16.2: the replies of a primary: to each entry that is newly committed, in order, with what came of it, once.
func TestDeliverReplies(t *testing.T) {
	log := entries("a", "(", "b", "c")
	all := []node.Reply{made(1, 1, 1), refused(2, 1, api.ErrSyntax, 2, 0), made(3, 1, 2), made(4, 1, 3)}
	for first := range 5 {
		for second := range 5 {
			x := paired(t, config(3, 0), state(0, log...))
			checkReplies(t, x.deliver(t, ack(0, 1, 0, first)), all[:first]...)
			checkReplies(t, x.deliver(t, ack(0, 2, 0, second)), all[first:max(first, second)]...)
			checkReplies(t, x.deliver(t, ack(0, 1, 0, second)))
		}
	}
	x := paired(t, config(5, 0), state(1, log...))
	checkReplies(t, x.deliver(t, ack(0, 1, 0, 4)))
	checkReplies(t, x.deliver(t, ack(0, 2, 0, 3)), all[1:3]...)
	checkReplies(t, x.deliver(t, ack(0, 3, 0, 4)), all[3:]...)
}

// P16.2: whatever comes of an entry is replied; what a later one makes of the set hangs on all ahead of it.
func TestDeliverOutcomes(t *testing.T) {
	drop := puts(1, "a")
	drop.Put, drop.Drop = nil, []int{5}
	log := []pack.Entry{entry(1, 2, "a"), entry(1, 1, "b"), {Client: 2, Request: 1, Delta: drop}, {Client: 3, Request: 1, Delta: puts(5, "a")}, {Client: 4, Request: 1, Delta: drop}, {Client: 5, Request: 1, Delta: drop}}
	all := []node.Reply{made(1, 2, 1), refused(1, 1, api.ErrTwice, 0, 0), refused(2, 1, api.ErrNone, 0, 0), made(3, 1, 2), made(4, 1, 3), refused(5, 1, api.ErrNone, 0, 0)}
	x := paired(t, config(3, 0), state(0, log...))
	checkReplies(t, x.deliver(t, ack(0, 1, 0, 3)), all[:3]...)
	checkReplies(t, x.deliver(t, ack(0, 2, 0, 6)), all[3:]...)
}

// P16.2: who isn't the primary replies nothing, but has the versions that came.
func TestDeliverFollows(t *testing.T) {
	log := entries("a", "b", "(", "c")
	x := paired(t, config(3, 1), state(0, log[:1]...))
	checkOut(t, x.deliver(t, logged(1, 0, 0, 1, 2, 1, log[1])), ack(0, 1, 0, 2))
	checkStatus(t, x.n, node.Status{Commit: 1, Version: 1})
	checkOut(t, x.deliver(t, logged(3, 0, 0, 1, 2, 2)), ack(0, 1, 0, 2))
	checkStatus(t, x.n, node.Status{Commit: 2, Version: 2})
	checkOut(t, x.deliver(t, logged(8, 0, 0, 1, 4, 4, log...)), ack(0, 1, 0, 4))
	checkStatus(t, x.n, node.Status{Commit: 4, Version: 3})
	checkOut(t, x.deliver(t, logged(6, 2, 2, 1, 4, 4, log...)), ack(2, 1, 2, 4))
	checkStatus(t, x.n, node.Status{View: 2, Commit: 4, Version: 3})
}

// P16.2: a node that becomes the primary in a step replies to what that step commits.
func TestDeliverBecomesPrimary(t *testing.T) {
	log := entries("a", "b", "(", "c")
	x := paired(t, config(3, 1), state(1, log[:2]...))
	x.tick(t)
	x.tick(t)
	checkReplies(t, x.tick(t))
	m := logged(5, 1, 2, 1, 4, 3, log...)
	checkReplies(t, x.deliver(t, m), made(2, 1, 2), refused(3, 1, api.ErrSyntax, 3, 0))
	checkStatus(t, x.n, node.Status{Role: primary, View: 1, Commit: 3, Version: 2})
	checkReplies(t, x.deliver(t, ack(1, 0, 1, 4)), made(4, 1, 3))
	// One that hears of the view in the very step.
	x = paired(t, config(3, 1), state(0, log[:2]...))
	checkReplies(t, x.deliver(t, logged(5, 4, 0, 1, 2, 2, log[:2]...)), made(1, 1, 1), made(2, 1, 2))
	checkStatus(t, x.n, node.Status{Role: primary, View: 4, Commit: 2, Version: 2})
	// One that decides with nothing new committed.
	x = paired(t, config(3, 1), state(2, log...))
	checkReplies(t, x.deliver(t, logged(5, 1, 2, 1, 2, 2, log[:2]...)))
}

// P16.2: a node that is the primary no more behind a step doesn't reply, and never will to what was committed then.
func TestDeliverPrimaryNoMore(t *testing.T) {
	log := entries("a", "b", "c", "d")
	x := paired(t, config(3, 0), state(0, log[:2]...))
	checkOut(t, x.deliver(t, logged(8, 1, 1, 0, 3, 2, log[:3]...)), ack(1, 0, 1, 3))
	checkStatus(t, x.n, node.Status{View: 1, Commit: 2, Version: 2})
	x.tick(t)
	x.tick(t)
	x.tick(t)
	x.deliver(t, pack.Message{Kind: 4, View: 3, From: 1, To: 0})
	checkReplies(t, x.deliver(t, logged(5, 3, 1, 0, 3, 2, log[:3]...)))
	checkStatus(t, x.n, node.Status{Role: primary, View: 3, Commit: 2, Version: 2})
	checkReplies(t, x.deliver(t, ack(3, 2, 0, 3)), made(3, 1, 3))
}

// P16.2: what is committed elsewhere, and isn't in its log yet, comes when the log does.
func TestDeliverLate(t *testing.T) {
	log := entries("a", "b", "c")
	x := paired(t, config(3, 2), state(0))
	checkOut(t, x.deliver(t, logged(3, 0, 0, 2, 3, 2)), pack.Message{Kind: 7, From: 2, To: 0})
	checkStatus(t, x.n, node.Status{})
	checkOut(t, x.deliver(t, logged(8, 0, 0, 2, 3, 2, log...)), ack(0, 2, 0, 3))
	checkStatus(t, x.n, node.Status{Commit: 2, Version: 2})
}
