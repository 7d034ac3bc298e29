package replica_test

import (
	"slices"
	"testing"

	"colander/ledger"
	"colander/pack"
)

// P15.4, the Kind 4: a View above its own is begun, and said to each of the others by rising number; whoever sends it, and whatever it was.
func TestWantAbove(t *testing.T) {
	for _, n := range []int{5, 7} {
		for id := range n {
			for _, s := range []ledger.State{state(n, n, 1, "ab"), state(n+2, n+1, 1, "ab"), state(n+id, n+id, 1, "ab")} {
				for from := range n {
					for view := s.View + 1; from != id && view < s.View+2*n; view++ {
						checkSteps(t, made(t, config(n, id), s), step{want(view, from, id), each(n, want(view, id, 0)), state(view, s.Normal, 1, "ab"), changing})
					}
				}
			}
		}
	}
	r := made(t, config(5, 2), state(0, 0, 0, "a"))
	checkSteps(t, r, step{want(most, 4, 2), each(5, want(most, 2, 0)), state(most, 0, 0, "a"), changing})
}

// P15.4, the Kind 4: of three who begins a view and the sender are more than half, so what it has is said behind what is said to all.
func TestWantAboveThree(t *testing.T) {
	for _, s := range []ledger.State{state(3, 3, 1, "aX"), state(4, 3, 1, "aX"), state(1, 1, 1, "aX")} {
		checkSteps(t, made(t, config(3, 1), s),
			step{want(5, 2, 1), one(want(5, 1, 0), want(5, 1, 2), have(5, 1, 2, s.Normal, 1, "aX")), state(5, s.Normal, 1, "aX"), changing})
		checkSteps(t, made(t, config(3, 1), s),
			step{want(6, 2, 1), one(want(6, 1, 0), want(6, 1, 2), have(6, 1, 0, s.Normal, 1, "aX")), state(6, s.Normal, 1, "aX"), changing})
		checkSteps(t, made(t, config(3, 1), s),
			step{want(7, 2, 1), one(want(7, 1, 0), want(7, 1, 2)), state(7, s.Normal, 1, "aX"), changing}) // it is the primary itself
	}
}

// P15.4, the Kind 4: more than half as starts, itself among them, have it say what it has to the primary of the view; once in a view.
func TestWantHalf(t *testing.T) {
	for _, n := range []int{3, 5, 7} {
		id := n - 1
		r := made(t, config(n, id), state(n, n, 1, "ab"))
		checkTicks(t, r, 2)
		checkBegins(t, r, n, id)
		for from := range n - 1 {
			switch {
			case from+2 == n/2+1:
				checkDeliver(t, r, want(n+1, from, id), have(n+1, id, 1, n, 1, "ab"))
			default:
				checkNothing(t, r, want(n+1, from, id))
			}
		}
	}
}

// P15.4, the Kind 4: of one that was made changing it isn't a start itself, so more than half of others are needed.
func TestWantWithoutItself(t *testing.T) {
	for _, n := range []int{3, 5, 7} {
		r := made(t, config(n, n-1), state(n+1, n, 1, "ab"))
		for from := range n - 1 {
			switch {
			case from+1 == n/2+1:
				checkDeliver(t, r, want(n+1, from, n-1), have(n+1, n-1, 1, n, 1, "ab"))
			default:
				checkNothing(t, r, want(n+1, from, n-1))
			}
		}
	}
}

// P15.4, the Kind 4: the same sender twice is one start.
func TestWantAgain(t *testing.T) {
	r := made(t, config(5, 4), state(0, 0, 1, "ab"))
	checkDeliver(t, r, want(1, 0, 4), each(5, want(1, 4, 0))...)
	for range 5 {
		checkNothing(t, r, want(1, 0, 4))
	}
	checkDeliver(t, r, want(1, 2, 4), have(1, 4, 1, 0, 1, "ab"))
	for _, from := range []int{0, 1, 2, 3} {
		checkNothing(t, r, want(1, from, 4))
	}
}

// P15.4, the Kind 4: who is normal in its View does nothing.
func TestWantNormal(t *testing.T) {
	for _, id := range []int{0, 1, 2} {
		r := made(t, config(3, id), state(3, 3, 1, "ab"))
		for range 3 {
			for from := range 3 {
				if from != id {
					checkNothing(t, r, want(3, from, id))
				}
			}
		}
	}
}

// P15.4, the Kind 4: starts, and that it has said what it has, are forgotten as the next view begins: by a tick, by the Kind 4 and by the Kind 5.
func TestWantForgotten(t *testing.T) {
	r := made(t, config(5, 4), state(0, 0, 1, "ab"))
	checkDeliver(t, r, want(1, 0, 4), each(5, want(1, 4, 0))...)
	checkTicks(t, r, 2)
	checkBegins(t, r, 5, 4)
	checkNothing(t, r, want(2, 1, 4))
	checkDeliver(t, r, want(2, 0, 4), have(2, 4, 2, 0, 1, "ab"))
	checkDeliver(t, r, want(3, 0, 4), each(5, want(3, 4, 0))...)
	checkDeliver(t, r, want(3, 1, 4), have(3, 4, 3, 0, 1, "ab"))
	checkDeliver(t, r, have(4, 0, 4, 0, 1, "ab"), each(5, want(4, 4, 0))...)
	checkDeliver(t, r, want(5, 0, 4), each(5, want(5, 4, 0))...)
	checkDeliver(t, r, want(5, 3, 4), have(5, 4, 0, 0, 1, "ab"))
}

// P15.4, the Kind 4: a view that is begun by it is quiet for 0 ticks; a start in its own view undoes no tick, nor does what it says of what it has.
func TestWantQuiet(t *testing.T) {
	for _, s := range []ledger.State{state(0, 0, 0, "ab"), state(2, 0, 0, "ab")} {
		r := made(t, config(5, 4), s)
		checkTicks(t, r, 2)
		checkDeliver(t, r, want(3, 0, 4), each(5, want(3, 4, 0))...)
		checkTicks(t, r, 2)
		checkDeliver(t, r, want(3, 1, 4), have(3, 4, 3, 0, 0, "ab"))
		checkNothing(t, r, want(3, 2, 4))
		checkBegins(t, r, 5, 4)
		checkTicks(t, r, 2)
		checkBegins(t, r, 5, 4)
	}
	r := made(t, config(3, 2), state(3, 3, 0, "ab"))
	checkTicks(t, r, 2)
	checkNothing(t, r, want(3, 0, 2))
	checkBegins(t, r, 3, 2)
}

// P15.4, the Kind 5: who isn't the primary of its View does nothing, whatever the View; nor is a tick undone.
func TestHaveElsewhere(t *testing.T) {
	checkIdle(t, func(n, id, view, from int) []pack.Message {
		if from == id || id == view%n {
			return nil
		}
		return one(have(view, from, id, n, 2, "abcd"))
	})
}

// P15.4, the Kind 5: at a primary that is normal the sender alone hears how its view began, with what is in the log by now.
func TestHaveNormal(t *testing.T) {
	for _, n := range []int{3, 5, 7} {
		for id := range n {
			r := made(t, config(n, id), state(n+id, n+id, 1, "aX"))
			for from := range n {
				if from == id {
					continue
				}
				for _, letters := range []string{"", "aX", "aXbc", "zz"} {
					s := state(n+id, n+id, 1, "aX")
					checkSteps(t, r, step{have(n+id, from, id, n+id, 0, letters), one(lead(n+id, id, from, 1, "aX")), s, leader})
				}
			}
		}
	}
}

// P15.4, the Kind 5: a View above its own is begun by its primary; of three the change and itself are more than half.
func TestHaveAbove(t *testing.T) {
	for _, s := range []ledger.State{state(0, 0, 1, "aX"), state(1, 0, 1, "aX"), state(1, 1, 1, "aX"), state(4, 4, 1, "aX"), state(6, 5, 1, "aX")} {
		out := append(each(3, want(7, 1, 0)), each(3, lead(7, 1, 0, 1, "aX"))...)
		checkSteps(t, made(t, config(3, 1), s), step{have(7, 2, 1, 0, 0, "a"), out, state(7, 7, 1, "aX"), leader})
		checkSteps(t, made(t, config(5, 2), s),
			step{have(7, 0, 2, 0, 0, "a"), each(5, want(7, 2, 0)), state(7, s.Normal, 1, "aX"), changing},
			step{have(7, 4, 2, 0, 0, "a"), each(5, lead(7, 2, 0, 1, "aX")), state(7, 7, 1, "aX"), leader})
	}
}

// P15.4, the Kind 5: in its own view the primary decides by just more than half, itself among them: of 3, 5 and 7; whether it has been wanted or not.
func TestHaveHalf(t *testing.T) {
	for _, n := range []int{3, 5, 7} {
		r := made(t, config(n, 0), state(n, n-1, 1, "ab"))
		for from := n - 1; from > n-n/2; from-- {
			checkNothing(t, r, have(n, from, 0, n-1, 1, "ab"))
		}
		checkSteps(t, r, step{have(n, n-n/2, 0, n-1, 1, "ab"), each(n, lead(n, 0, 0, 1, "ab")), state(n, n, 1, "ab"), leader})
		checkDeliver(t, r, have(n, 1, 0, n-1, 1, "ab"), lead(n, 0, 1, 1, "ab"))
	}
}

// P15.4, the Kind 5: the same sender twice is one change, and what it sent last counts.
func TestHaveAgain(t *testing.T) {
	r := made(t, config(5, 0), state(5, 3, 1, "ab"))
	for _, letters := range []string{"abcd", "abc", "abe", "abcde", "abf"} {
		checkNothing(t, r, have(5, 1, 0, 4, 3, letters))
	}
	checkSteps(t, r, step{have(5, 2, 0, 2, 0, "abcdefg"), each(5, lead(5, 0, 0, 3, "abf")), state(5, 5, 3, "abf"), leader})
}

// P15.4, the Kind 5: changes are forgotten as the next view begins: by a tick, by the Kind 4 and by the Kind 5.
func TestHaveForgotten(t *testing.T) {
	r := made(t, config(5, 0), state(5, 4, 0, "ab"))
	checkNothing(t, r, have(5, 1, 0, 4, 0, "abc"))
	for range 5 {
		checkTicks(t, r, 2)
		checkBegins(t, r, 5, 0)
	}
	checkNothing(t, r, have(10, 2, 0, 4, 0, "abd"))
	checkDeliver(t, r, want(15, 3, 0), each(5, want(15, 0, 0))...)
	checkNothing(t, r, have(15, 3, 0, 4, 0, "abe"))
	checkDeliver(t, r, have(20, 4, 0, 3, 0, "abf"), each(5, want(20, 0, 0))...)
	checkDeliver(t, r, have(20, 1, 0, 4, 0, "abg"), each(5, lead(20, 0, 0, 0, "abg"))...)
}

// choice is what a primary and others have, and what comes of it in the view 7.
type choice struct {
	own     ledger.State
	changes []pack.Message
	after   ledger.State
}

// checkChoice hands the changes to the primary of as many that they are just enough, in this and in the other order.
func checkChoice(t *testing.T, c choice) {
	t.Helper()
	n := 2*len(c.changes) + 1
	id := 7 % n
	c.after.View, c.after.Normal = 7, 7
	for range 2 {
		r := made(t, config(n, id), c.own)
		for i, m := range c.changes {
			m.View, m.To = 7, id
			if i < len(c.changes)-1 {
				checkNothing(t, r, m)
				continue
			}
			checkSteps(t, r, step{m, each(n, lead(7, id, 0, c.after.Commit, short(c.after.Log))), c.after, leader})
		}
		slices.Reverse(c.changes)
	}
}

// checkChoices holds many of them.
func checkChoices(t *testing.T, list []choice) {
	t.Helper()
	for _, c := range list {
		checkChoice(t, c)
	}
}

// from is a change in the view that is begun.
func from(id, normal, commit int, letters string) pack.Message {
	return have(7, id, 0, normal, commit, letters)
}

// P15.4, deciding: the greatest Normal goes first, whatever the logs' lengths.
func TestDecideNormal(t *testing.T) {
	checkChoices(t, []choice{
		{state(7, 4, 0, "abcd"), one(from(0, 5, 0, "ab"), from(1, 4, 0, "abcde")), state(0, 0, 0, "ab")},
		{state(7, 5, 0, "ab"), one(from(0, 4, 0, "abcd"), from(1, 4, 0, "abcde")), state(0, 0, 0, "ab")},
		{state(7, 5, 0, "ab"), one(from(0, 4, 0, "abcd"), from(1, 6, 0, "")), state(0, 0, 0, "")},
		{state(7, 5, 0, "ab"), one(from(0, 6, 0, "cd"), from(1, 5, 0, "efg")), state(0, 0, 0, "cd")},
		{state(7, 0, 0, "ab"), one(from(0, 7, 0, "c")), state(0, 0, 0, "c")},
		{state(7, 6, 0, "ab"), one(from(0, most, 0, "c")), state(0, 0, 0, "c")},
		{state(7, 6, 0, "ab"), one(from(0, 5, 0, "cXY")), state(0, 0, 0, "ab")},
		{state(7, 1, 0, "a"), one(from(1, 2, 0, "b"), from(3, 5, 0, "Y"), from(5, 4, 0, "dddd")), state(0, 0, 0, "Y")},
	})
}

// P15.4, deciding: among those of the greatest Normal the longest log.
func TestDecideLength(t *testing.T) {
	checkChoices(t, []choice{
		{state(7, 5, 0, "ab"), one(from(0, 5, 0, "cde")), state(0, 0, 0, "cde")},
		{state(7, 5, 0, "abcd"), one(from(0, 5, 0, "cde")), state(0, 0, 0, "abcd")},
		{state(7, 5, 0, "ab"), one(from(0, 5, 0, "cde"), from(1, 5, 0, "fghi")), state(0, 0, 0, "fghi")},
		{state(7, 5, 0, "ab"), one(from(0, 5, 0, "cdef"), from(1, 5, 0, "ghi")), state(0, 0, 0, "cdef")},
		{state(7, 4, 0, "abcdefg"), one(from(0, 5, 0, "c"), from(1, 5, 0, "de")), state(0, 0, 0, "de")},
		{state(7, 5, 0, ""), one(from(0, 5, 0, many(64)), from(1, 5, 0, many(63))), state(0, 0, 0, many(64))},
	})
}

// P15.4, deciding: of those that tie itself, and then the one with the least number, in whatever order they came.
func TestDecideTies(t *testing.T) {
	checkChoices(t, []choice{
		{state(7, 5, 0, "ab"), one(from(0, 5, 0, "cd")), state(0, 0, 0, "ab")},
		{state(7, 5, 0, "ab"), one(from(0, 5, 0, "cd"), from(1, 5, 0, "ef")), state(0, 0, 0, "ab")},
		{state(7, 5, 0, "a"), one(from(0, 5, 0, "cd"), from(1, 5, 0, "ef")), state(0, 0, 0, "cd")},
		{state(7, 5, 0, "a"), one(from(1, 5, 0, "cd"), from(4, 5, 0, "ef")), state(0, 0, 0, "cd")},
		{state(7, 5, 0, "a"), one(from(3, 5, 0, "cd"), from(4, 5, 0, "ef")), state(0, 0, 0, "cd")},
		{state(7, 5, 0, "ab"), one(from(1, 5, 0, "cd"), from(3, 5, 0, "ef"), from(4, 5, 0, "gh")), state(0, 0, 0, "ab")},
		{state(7, 4, 0, "abc"), one(from(1, 5, 0, "g"), from(3, 5, 0, "cd"), from(4, 5, 0, "ef")), state(0, 0, 0, "cd")},
		{state(7, 4, 0, "abc"), one(from(2, 5, 0, "Xg"), from(3, 5, 0, "cd"), from(6, 5, 0, "ef")), state(0, 0, 0, "Xg")},
	})
}

// P15.4, deciding: logs that don't begin with what is committed here are left out, but their senders count.
func TestDecideFits(t *testing.T) {
	checkChoices(t, []choice{
		{state(7, 4, 2, "abc"), one(from(0, 5, 0, "adefg")), state(0, 0, 2, "abc")},
		{state(7, 4, 2, "abc"), one(from(0, 5, 0, "a")), state(0, 0, 2, "abc")},
		{state(7, 4, 2, "abc"), one(from(0, 5, 0, "")), state(0, 0, 2, "abc")},
		{state(7, 4, 2, "abc"), one(from(0, 5, 0, "ab")), state(0, 0, 2, "ab")},
		{state(7, 4, 2, "abc"), one(from(0, 5, 0, "abd")), state(0, 0, 2, "abd")},
		{state(7, 4, 1, "abc"), one(from(0, 5, 0, "ba"), from(1, 4, 0, "adef")), state(0, 0, 1, "adef")},
		{state(7, 4, 1, "abc"), one(from(0, 5, 0, "ba"), from(1, 3, 0, "adef")), state(0, 0, 1, "abc")},
		{state(7, 4, 1, "abc"), one(from(0, 6, 0, "bXY"), from(1, 5, 0, "aY")), state(0, 0, 1, "aY")},
		{state(7, 4, 1, "Xbc"), one(from(0, 6, 0, "Y"), from(1, 5, 0, "XZ")), state(0, 0, 1, "XZ")},
		{state(7, 4, 3, "abc"), one(from(0, 5, 0, "abX"), from(1, 5, 0, "bbc")), state(0, 0, 3, "abc")},
	})
	other := log("Xbc")
	other[0].Delta.Drop = []int{1}
	c := choice{state(7, 4, 1, "Xbc"), one(from(0, 6, 0, "XYZ")), state(0, 0, 1, "Xbc")}
	c.changes[0].Log[0] = other[0]
	checkChoice(t, c)
}

// P15.4, deciding: Commit is the greatest one of all that fit, its own too, and at most the new length.
func TestDecideCommit(t *testing.T) {
	checkChoices(t, []choice{
		{state(7, 4, 1, "abc"), one(from(0, 4, 2, "ab")), state(0, 0, 2, "abc")},
		{state(7, 4, 2, "abc"), one(from(0, 4, 1, "ab")), state(0, 0, 2, "abc")},
		{state(7, 4, 2, "abc"), one(from(0, 5, 0, "abde")), state(0, 0, 2, "abde")},
		{state(7, 4, 2, "abc"), one(from(0, 5, 64, "ab")), state(0, 0, 2, "ab")},
		{state(7, 4, 0, "abc"), one(from(0, 5, 64, "ad")), state(0, 0, 2, "ad")},
		{state(7, 5, 0, "abc"), one(from(0, 4, 64, "ad")), state(0, 0, 3, "abc")},
		{state(7, 5, 0, "abcdefg"), one(from(0, 5, 2, "abX"), from(1, 5, 4, "abcd")), state(0, 0, 4, "abcdefg")},
		{state(7, 5, 0, "abcdefg"), one(from(0, 5, 5, "abcde"), from(1, 5, 4, "abcd")), state(0, 0, 5, "abcdefg")},
		{state(7, 5, 6, "abcdefg"), one(from(0, 5, 5, "abcdef"), from(1, 5, 4, "abcdef")), state(0, 0, 6, "abcdefg")},
		{state(7, 5, 1, "abcdefg"), one(from(0, 5, 6, "bbcdefg"), from(1, 5, 4, "abcd")), state(0, 0, 4, "abcdefg")},
		{state(7, 5, 1, "abcdefg"), one(from(0, 6, 6, "bbcdefgh"), from(1, 7, 2, "abcd")), state(0, 0, 2, "abcd")},
		{state(7, 5, 0, ""), one(from(0, 5, 3, ""), from(1, 5, 64, "")), state(0, 0, 0, "")},
	})
}

// P15.4, deciding: the Commit of one whose Normal isn't the greatest counts, too, as far as the new log goes.
func TestDecideCommitOfOlder(t *testing.T) {
	checkChoices(t, []choice{
		{state(7, 4, 0, "ab"), one(from(0, 5, 1, "abcd"), from(1, 4, 3, "abc")), state(0, 0, 3, "abcd")},
		{state(7, 6, 1, "abcd"), one(from(0, 5, 2, "ab"), from(1, 4, 3, "abc")), state(0, 0, 3, "abcd")},
		{state(7, 4, 3, "abcd"), one(from(0, 6, 1, "abcde"), from(1, 5, 2, "ab")), state(0, 0, 3, "abcde")},
	})
}

// P15.4, deciding: whoever has decided is normal, says that it is there from then on, and takes acks from nothing on.
func TestDecided(t *testing.T) {
	r := made(t, config(5, 2), state(7, 4, 0, "ab"))
	checkNothing(t, r, have(7, 1, 2, 4, 0, "ab"))
	checkDeliver(t, r, have(7, 0, 2, 4, 0, "abc"), each(5, lead(7, 2, 0, 0, "abc"))...)
	checkSteps(t, r,
		step{ack(7, 0, 2, 3), nil, state(7, 7, 0, "abc"), leader},
		step{ack(7, 1, 2, 2), nil, state(7, 7, 2, "abc"), leader})
	for range 4 {
		checkOut(t, "tick", r.Tick(), each(5, beat(7, 2, 0, 3, 2)))
	}
	s := state(7, 7, 2, "abc")
	s.Log = append(s.Log, inView(7, entry('d')))
	checkSubmit(t, r, entry('d'), each(5, pack.Message{Kind: 1, View: 7, From: 2, Op: 4, Commit: 2, Log: s.Log[3:]})...)
	checkState(t, "submitted", r, s, leader)
}

// P15.4, the Kind 5: a view begun by it is quiet for 0 ticks; a change that isn't enough undoes no tick.
func TestHaveQuiet(t *testing.T) {
	r := made(t, config(5, 2), state(4, 4, 0, "ab"))
	checkTicks(t, r, 2)
	checkDeliver(t, r, have(7, 1, 2, 4, 0, "ab"), each(5, want(7, 2, 0))...)
	checkTicks(t, r, 2)
	checkNothing(t, r, have(7, 1, 2, 4, 0, "ab"))
	checkBegins(t, r, 5, 2)
}

// taken are the messages that bring a whole log: of the Kinds 6 and 8.
func taken(view, from, to, commit int, letters string) []pack.Message {
	return one(lead(view, from, to, commit, letters), tell(view, from, to, commit, letters))
}

// P15.4, the Kinds 6 and 8: a log that fits is taken over in a View above its own, and while it is changing in its own; the primary of the view hears how long it is.
func TestTakeOver(t *testing.T) {
	for _, n := range []int{3, 5, 7} {
		for id := range n {
			for _, s := range []ledger.State{state(n, n, 1, "ab"), state(n, n-1, 1, "ab"), state(n+id, n+id, 1, "ab"), state(0, 0, 1, "ab")} {
				for view := s.View; view < s.View+2*n; view++ {
					primary := view % n
					if primary == id || view == s.View && s.Normal == view {
						continue
					}
					for _, m := range taken(view, primary, id, 2, "aXc") {
						checkSteps(t, made(t, config(n, id), s), step{m, one(ack(view, id, primary, 3)), state(view, view, 2, "aXc"), follower})
					}
				}
			}
		}
	}
	for _, m := range taken(most, most%3, 0, 1, many(64)) {
		checkSteps(t, made(t, config(3, 0), state(0, 0, 1, "ab")), step{m, one(ack(most, 0, most%3, 64)), state(most, most, 1, many(64)), follower})
	}
}

// P15.4, the Kinds 6 and 8: logs that fit, and Commit, the greater one of both, and at most the new length.
func TestTakeOverFits(t *testing.T) {
	for _, c := range []struct {
		own     int
		log     string
		commit  int
		after   int
		letters string
	}{
		{0, "", 0, 0, ""}, {0, "", 64, 0, ""}, {0, "b", 0, 0, "b"}, {0, "bcdef", 3, 3, "bcdef"}, {0, "bcdef", 64, 5, "bcdef"},
		{1, "a", 0, 1, "a"}, {1, "a", 1, 1, "a"}, {1, "a", 2, 1, "a"}, {1, "aYc", 2, 2, "aYc"}, {1, "abX", 0, 1, "abX"},
		{2, "ab", 0, 2, "ab"}, {2, "ab", 3, 2, "ab"}, {2, "abcX", 1, 2, "abcX"}, {2, "abcX", 3, 3, "abcX"}, {2, "abd", 4, 3, "abd"},
		{3, "abX", 0, 3, "abX"}, {3, "abXd", 2, 3, "abXd"}, {3, "abXd", 4, 4, "abXd"}, {3, "abXde", 63, 5, "abXde"},
	} {
		for _, s := range []ledger.State{state(7, 4, c.own, "abX"), state(5, 5, c.own, "abX")} {
			for _, m := range taken(7, 2, 0, c.commit, c.log) {
				checkSteps(t, made(t, config(5, 0), s), step{m, one(ack(7, 0, 2, length(c.letters))), state(7, 7, c.after, c.letters), follower})
			}
		}
	}
}

// P15.4, the Kinds 6 and 8: of a log that doesn't fit nothing is done: neither the View nor a tick changes.
func TestTakeOverNot(t *testing.T) {
	for _, c := range []struct {
		own int
		log string
	}{{1, ""}, {1, "b"}, {1, "bab"}, {1, "Xbcde"}, {2, "a"}, {2, "aX"}, {2, "ba"}, {2, "aXbb"}, {3, "ab"}, {3, "abx"}, {3, "abcX"}, {3, many(64)}} {
		for _, s := range []ledger.State{state(7, 4, c.own, "abX"), state(5, 5, c.own, "abX"), state(6, 2, c.own, "abX")} {
			for _, m := range taken(7, 2, 3, 3, c.log) {
				r := made(t, config(5, 3), s)
				checkTicks(t, r, 2)
				checkNothing(t, r, m)
				checkBegins(t, r, 5, 3)
			}
		}
	}
}

// P15.4, the Kinds 6 and 8: an entry that is the same but for one part of it doesn't fit.
func TestTakeOverParts(t *testing.T) {
	for _, change := range []func(e *pack.Entry){
		func(e *pack.Entry) { e.View++ },
		func(e *pack.Entry) { e.Client++ },
		func(e *pack.Entry) { e.Request++ },
		func(e *pack.Entry) { e.Delta.Fuel++ },
		func(e *pack.Entry) { e.Delta.Put = e.Delta.Put[:1] },
		func(e *pack.Entry) { e.Delta.Put[1].Pattern = "q" },
		func(e *pack.Entry) { e.Delta.Drop = nil },
	} {
		for _, m := range taken(7, 2, 3, 3, "XYZ") {
			change(&m.Log[1])
			checkNothing(t, made(t, config(5, 3), state(5, 5, 2, "XYZ")), m)
			fits := made(t, config(5, 3), state(5, 5, 1, "XYZ"))
			checkDeliver(t, fits, m, ack(7, 3, 2, 3))
			checkState(t, "taken over", fits, ledger.State{View: 7, Normal: 7, Commit: 3, Active: 3, Log: m.Log}, follower)
		}
	}
}

// P15.4, the Kind 6: of who isn't the primary of its View it does nothing, whatever the View and wherever it comes; nor is a tick undone.
func TestLeadOfOthers(t *testing.T) {
	checkIdle(t, func(n, id, view, from int) []pack.Message {
		if from == id || from == view%n {
			return nil
		}
		return one(lead(view, from, id, 2, "abcd"))
	})
	for _, from := range []int{1, 2} {
		checkNothing(t, made(t, config(3, 0), state(3, 3, 0, "ab")), lead(3, from, 0, 2, "abcd"))
	}
	checkNothing(t, made(t, config(3, 0), state(3, 3, 0, "ab")), lead(4, 2, 0, 2, "abcd"))
	checkNothing(t, made(t, config(3, 0), state(3, 3, 0, "ab")), lead(6, 1, 0, 2, "abcd"))
}

// P15.4, the Kind 6: who is normal in its View does nothing, also where the log is longer; nor is a tick undone.
func TestLeadNormal(t *testing.T) {
	r := made(t, config(3, 2), state(3, 3, 1, "ab"))
	checkTicks(t, r, 2)
	for _, letters := range []string{"", "a", "ab", "abc", "aX", "Xab"} {
		checkNothing(t, r, lead(3, 0, 2, 2, letters))
	}
	checkBegins(t, r, 3, 2)
}

// P15.4, the Kind 7: who is normal in its View tells its log to the sender, whoever that is; nothing changes by it, nor is a tick undone.
func TestAsk(t *testing.T) {
	for _, n := range []int{3, 5, 7} {
		for id := range n {
			s := state(n, n, 1, "aX")
			r := made(t, config(n, id), s)
			role := r.Role()
			if role == follower {
				checkTicks(t, r, 2)
			}
			for from := range n {
				for _, op := range []int{0, 1, 2, 3, 64} {
					if from != id {
						checkSteps(t, r, step{ask(n, from, id, op), one(tell(n, id, from, 1, "aX")), s, role})
					}
				}
			}
			if role == follower {
				checkBegins(t, r, n, id)
			}
		}
	}
	checkDeliver(t, made(t, config(3, 1), state(0, 0, 0, "")), ask(0, 2, 1, 3), tell(0, 1, 2, 0, ""))
	checkDeliver(t, made(t, config(3, 1), state(0, 0, 64, many(64))), ask(0, 2, 1, 3), tell(0, 1, 2, 64, many(64)))
}

// P15.4, the Kind 7: while it is changing, and of another View, it does nothing.
func TestAskNothing(t *testing.T) {
	for id := range 3 {
		changing, normal := made(t, config(3, id), state(3, 2, 1, "ab")), made(t, config(3, id), state(3, 3, 1, "ab"))
		for from := range 3 {
			if from == id {
				continue
			}
			checkNothing(t, changing, ask(3, from, id, 0))
			for _, view := range []int{4, 5, 6, most} {
				checkNothing(t, changing, ask(view, from, id, 0))
				checkNothing(t, normal, ask(view, from, id, 0))
			}
		}
	}
}

// P15.4, the Kind 8: of whoever sends it, it is taken over in a View above, and while it is changing; the primary hears it, not the sender.
func TestTellOfAny(t *testing.T) {
	for _, from := range []int{0, 1, 2, 4} {
		for _, s := range []ledger.State{state(2, 2, 1, "ab"), state(7, 5, 1, "ab"), state(3, 3, 1, "ab"), state(7, 7, 1, "ab")} {
			checkSteps(t, made(t, config(5, 3), s), step{tell(7, from, 3, 2, "abX"), one(ack(7, 3, 2, 3)), state(7, 7, 2, "abX"), follower})
		}
	}
}

// P15.4, the Kind 8: who is normal in its View takes a log over, if its whole one is the beginning of it, and it is longer.
func TestTellNormal(t *testing.T) {
	for _, c := range []struct {
		commit int
		log    string
		after  ledger.State
	}{
		{0, "abX", state(7, 7, 1, "abX")}, {2, "abX", state(7, 7, 2, "abX")}, {3, "abX", state(7, 7, 3, "abX")}, {64, "abcde", state(7, 7, 5, "abcde")}, {1, "ab" + many(62), state(7, 7, 1, "ab"+many(62))},
	} {
		checkSteps(t, made(t, config(5, 3), state(7, 7, 1, "ab")), step{tell(7, 4, 3, c.commit, c.log), one(ack(7, 3, 2, length(c.log))), c.after, follower})
	}
	checkSteps(t, made(t, config(5, 3), state(7, 7, 0, "")), step{tell(7, 4, 3, 0, "X"), one(ack(7, 3, 2, 1)), state(7, 7, 0, "X"), follower})
	r := made(t, config(5, 3), state(7, 7, 1, "aX"))
	checkTicks(t, r, 2)
	for _, letters := range []string{"", "a", "X", "aX", "ab", "aY", "abX", "aYX", "XaX", "baXX", many(64)} {
		checkNothing(t, r, tell(7, 4, 3, 2, letters))
	}
	other := tell(7, 4, 3, 2, "aXb")
	other.Log[1].Delta.Drop[0]--
	checkNothing(t, r, other)
	checkBegins(t, r, 5, 3)
	checkNothing(t, made(t, config(5, 3), state(7, 7, 0, "")), tell(7, 4, 3, 2, ""))
}

// P15.4, the Kind 8: the primary of its View does nothing: normal, changing, and in a view below; nor is a tick undone.
func TestTellPrimary(t *testing.T) {
	for _, s := range []ledger.State{state(7, 7, 1, "ab"), state(7, 4, 1, "ab"), state(6, 6, 1, "ab"), state(2, 2, 1, "ab"), state(6, 5, 1, "ab")} {
		r := made(t, config(5, 2), s)
		if r.Role() != leader {
			checkTicks(t, r, 2)
		}
		for _, letters := range []string{"", "ab", "abc", "abX", "acd"} {
			for _, from := range []int{0, 1, 3, 4} {
				checkNothing(t, r, tell(7, from, 2, 2, letters))
			}
		}
		if r.Role() != leader {
			checkBegins(t, r, 5, 2)
		}
	}
}

// P15.4, the Kinds 6 and 8: who has taken over is normal, was quiet for 0 ticks, and takes what its primary says.
func TestTakenOver(t *testing.T) {
	for _, s := range []ledger.State{state(7, 4, 1, "ab"), state(4, 4, 1, "ab"), state(3, 3, 1, "ab")} {
		for _, m := range taken(7, 2, 3, 2, "abc") {
			r := made(t, config(5, 3), s)
			if s.View != 3 {
				checkTicks(t, r, 2)
			}
			checkDeliver(t, r, m, ack(7, 3, 2, 3))
			checkTicks(t, r, 2)
			checkSteps(t, r, step{add(7, 2, 3, 4, 4, 'd'), one(ack(7, 3, 2, 4)), state(7, 7, 4, "abcd"), follower})
			checkTicks(t, r, 2)
			checkBegins(t, r, 5, 3)
		}
	}
	r := made(t, config(5, 3), state(7, 7, 1, "ab"))
	checkTicks(t, r, 2)
	checkDeliver(t, r, tell(7, 1, 3, 2, "abc"), ack(7, 3, 2, 3))
	checkTicks(t, r, 2)
	checkBegins(t, r, 5, 3)
}
