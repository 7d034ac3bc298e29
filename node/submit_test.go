package node_test

import (
	"math"
	"slices"
	"strings"
	"testing"

	"colander/api"
	"colander/ledger"
	"colander/pack"
	"colander/rule"
)

// P16.2: what is submitted goes to each of the others, with the view of then, whatever view the caller may think of; it stands in the log, and nothing is replied yet.
func TestSubmit(t *testing.T) {
	for _, n := range []int{3, 5, 7} {
		for _, view := range []int{0, 1, 2*n + 1, 3*n - 1} {
			x := paired(t, config(n, view%n), ledger.State{View: view, Normal: view, Commit: 1, Log: entries("a", "b")})
			e := pack.Entry{View: view, Client: 9, Request: 4, Delta: puts(3, "c")}
			var want []pack.Message
			for id := range n {
				if id != view%n {
					want = append(want, logged(1, view, view%n, id, 3, 1, e))
				}
			}
			checkOut(t, x.submit(t, 9, 4, e.Delta), want...)
			if s := x.n.State(); !pack.Same(s.Log, append(entries("a", "b"), e)) {
				t.Fatalf("%+v", s.Log)
			}
		}
	}
}

// wrongDeltas are those that no right entry has.
func wrongDeltas() []rule.Delta {
	list := []rule.Delta{puts(0, "a"), puts(1, strings.Repeat("a", 257)), {Default: -2}, {Default: most + 1}, {Stack: math.MinInt}, {Drop: []int{-1}}, {Drop: make([]int, 17)}}
	return append(list, rule.Delta{Put: slices.Repeat(puts(1, "a").Put, 17)})
}

// P16.2: each of layer 15's errors, in their order, each with nothing besides; nothing changes by them.
func TestSubmitErrors(t *testing.T) {
	full := slices.Repeat(entries("a"), 64)
	full[63].Request = 2
	for _, c := range []struct {
		s    ledger.State
		e    pack.Entry
		want api.Errno
	}{
		{state(1, entries("a", "b")...), entry(2, 1, "b"), api.ErrBusy},
		{state(1, entries("a", "b")...), entry(2, 1, "other"), api.ErrBusy},
		{state(64, full...), entry(1, 3, "b"), api.ErrFull},
		{state(0, full...), entry(1, math.MaxInt, "b"), api.ErrForm},
		{state(62, full...), entry(1, 2, "b"), api.ErrBusy},
		{state(62, full...), entry(2, 1, "b"), api.ErrFull},
		{ledger.State{View: 1, Normal: 1, Log: entries("a"), Commit: 1}, entry(1, 1, "a"), api.ErrRole},
		{ledger.State{View: 3, Normal: 2, Log: entries("a"), Commit: 1}, entry(1, 1, "a"), api.ErrRole},
		{ledger.State{View: 3, Normal: 2, Log: full, Commit: 1}, entry(0, 0, ""), api.ErrRole},
	} {
		x := paired(t, config(3, 0), c.s)
		checkError(t, x.submit(t, c.e.Client, c.e.Request, c.e.Delta), c.want)
		if !sameState(x.n.State(), c.s) {
			t.Fatalf("%+v, not %+v", x.n.State(), c.s)
		}
	}
}

// P16.2: ErrForm of an entry that isn't right, ahead of what the log has against it; and ErrRole ahead of that.
func TestSubmitWrong(t *testing.T) {
	full := slices.Repeat(entries("a"), 64)
	for _, s := range []ledger.State{{}, state(2, entries("a", "b")...), state(64, full...), {View: 4, Normal: 4}} {
		x := paired(t, config(3, 0), s)
		want := api.ErrForm
		if s.View > 0 {
			want = api.ErrRole
		}
		for _, n := range []int{math.MinInt, -1, 0, most + 1, math.MaxInt} {
			checkError(t, x.submit(t, n, 1, puts(1, "a")), want)
			checkError(t, x.submit(t, 1, n, puts(1, "a")), want)
		}
		for _, d := range wrongDeltas() {
			checkError(t, x.submit(t, 1, 1, d), want)
		}
	}
}

// P16.2: with ErrTwice the reply to the client's last request in the history, whatever came of it, also where another delta is asked for; to no lesser one, and to nobody else's.
func TestSubmitTwice(t *testing.T) {
	log := []pack.Entry{entry(1, 3, "a"), entry(2, 9, "a*"), entry(1, 5, "("), entry(2, most, "c"), entry(3, 7, "a**")}
	x := paired(t, config(3, 0), state(5, log...))
	for range 2 {
		checkError(t, x.submit(t, 1, 5, puts(1, "(")), api.ErrTwice, refused(1, 5, api.ErrSyntax, 1, 0))
		checkError(t, x.submit(t, 1, 5, puts(8, "other")), api.ErrTwice, refused(1, 5, api.ErrSyntax, 1, 0))
		checkError(t, x.submit(t, 2, most, puts(1, "c")), api.ErrTwice, made(2, most, 3))
		checkError(t, x.submit(t, 3, 7, puts(1, "c")), api.ErrTwice, refused(3, 7, api.ErrRepeat, 1, 2))
		for request := 1; request < 5; request++ {
			checkError(t, x.submit(t, 1, request, puts(1, "a")), api.ErrTwice)
		}
		for _, request := range []int{1, 7, 8, 9, 10, most - 1} {
			checkError(t, x.submit(t, 2, request, puts(1, "a")), api.ErrTwice)
		}
		checkError(t, x.submit(t, 3, 6, puts(1, "a")), api.ErrTwice)
	}
	if a := x.submit(t, 4, 1, puts(1, "a")); a.E != api.OK {
		t.Fatalf("%+v", a)
	}
}

// P16.2: the client's last one is that in the history: what stands in the log behind it counts for ErrTwice alone.
func TestSubmitTwiceBehind(t *testing.T) {
	log := []pack.Entry{entry(1, 3, "a"), entry(1, 4, "b"), entry(2, 6, "c")}
	x := paired(t, config(5, 0), state(1, log...))
	checkError(t, x.submit(t, 1, 3, puts(1, "a")), api.ErrTwice, made(1, 3, 1))
	checkError(t, x.submit(t, 1, 2, puts(1, "a")), api.ErrTwice)
	checkError(t, x.submit(t, 1, 4, puts(1, "b")), api.ErrBusy)
	checkError(t, x.submit(t, 2, 5, puts(1, "c")), api.ErrTwice)
	x.deliver(t, ack(0, 1, 0, 2))
	checkReplies(t, x.deliver(t, ack(0, 2, 0, 3)), made(1, 4, 2))
	checkError(t, x.submit(t, 1, 3, puts(1, "a")), api.ErrTwice)
	checkError(t, x.submit(t, 1, 4, puts(1, "b")), api.ErrTwice, made(1, 4, 2))
	checkError(t, x.submit(t, 2, 5, puts(1, "c")), api.ErrTwice)
	checkReplies(t, x.deliver(t, ack(0, 1, 0, 3)), made(2, 6, 3))
	checkError(t, x.submit(t, 2, 6, puts(1, "c")), api.ErrTwice, made(2, 6, 3))
}

// P16.2: of an entry that stands in the log twice the reply is what came of the first one; that the second one came too late is replied to nobody who asks again.
func TestSubmitTwiceDoubled(t *testing.T) {
	log := []pack.Entry{entry(1, 3, "a"), entry(1, 2, "b"), entry(1, 3, "c")}
	x := paired(t, config(3, 0), state(0, log...))
	checkReplies(t, x.deliver(t, ack(0, 1, 0, 3)), made(1, 3, 1), refused(1, 2, api.ErrTwice, 0, 0), refused(1, 3, api.ErrTwice, 0, 0))
	checkError(t, x.submit(t, 1, 3, puts(1, "a")), api.ErrTwice, made(1, 3, 1))
	checkError(t, x.submit(t, 1, 2, puts(1, "a")), api.ErrTwice)
}

// P16.2: the reply is the same behind a start, at another node, and in a later view; only a primary has it.
func TestSubmitTwiceElsewhere(t *testing.T) {
	log := entries("a", "b(", "c")
	for view := range 7 {
		for id := range 3 {
			x := paired(t, config(3, id), ledger.State{View: view, Normal: view, Commit: 3, Log: log})
			if view%3 != id {
				checkError(t, x.submit(t, 3, 1, puts(3, "c")), api.ErrRole)
				continue
			}
			checkError(t, x.submit(t, 3, 1, puts(3, "c")), api.ErrTwice, made(3, 1, 2))
			checkError(t, x.submit(t, 2, 1, puts(3, "c")), api.ErrTwice, refused(2, 1, api.ErrSyntax, 2, 1))
			x.crash(0, nil)
			x.start(t)
			checkError(t, x.submit(t, 3, 1, puts(3, "c")), api.ErrTwice, made(3, 1, 2))
		}
	}
}
