package replica_test

import (
	"math"
	"slices"
	"testing"

	"colander/api"
	"colander/ledger"
	"colander/pack"
	"colander/replica"
)

// kinds is a right message of each Kind, of View 5.
func kinds(from, to int) []pack.Message {
	return one(add(5, from, to, 3, 2, 'c'), ack(5, from, to, 2), beat(5, from, to, 3, 2), want(5, from, to), have(5, from, to, 4, 2, "abc"),
		lead(5, from, to, 2, "abc"), ask(5, from, to, 1), tell(5, from, to, 2, "abc"))
}

// spoiltMessages are messages that come of a right one, each with one part that may not be.
func spoiltMessages(right pack.Message) []pack.Message {
	var list []pack.Message
	for _, change := range []func(m *pack.Message){
		func(m *pack.Message) { m.Kind = 0 },
		func(m *pack.Message) { m.Kind = 9 },
		func(m *pack.Message) { m.Kind = -1 },
		func(m *pack.Message) { m.View = -1 },
		func(m *pack.Message) { m.View = most + 1 },
		func(m *pack.Message) { m.View = math.MinInt },
		func(m *pack.Message) { m.View = math.MaxInt },
		func(m *pack.Message) { m.From = -1 },
		func(m *pack.Message) { m.From = 7 },
		func(m *pack.Message) { m.From = math.MinInt },
		func(m *pack.Message) { m.From = math.MaxInt },
		func(m *pack.Message) { m.Op = -1 },
		func(m *pack.Message) { m.Op = 65 },
		func(m *pack.Message) { m.Commit = -1 },
		func(m *pack.Message) { m.Commit = 65 },
		func(m *pack.Message) { m.Normal = -1 },
		func(m *pack.Message) { m.Normal = most + 1 },
	} {
		m := right
		change(&m)
		list = append(list, m)
	}
	return append(list, spoiltLogs(right)...)
}

// spoiltLogs are messages with a log that their Kind may not have.
func spoiltLogs(right pack.Message) []pack.Message {
	var list []pack.Message
	with := func(log []pack.Entry) {
		m := right
		m.Log = log
		list = append(list, m)
	}
	with(log(many(65)))
	switch right.Kind {
	case 1:
		with(nil)
		with(log("ab"))
		fallthrough
	case 5, 6, 8:
		for _, e := range wrongEntries() {
			for place := range right.Log {
				l := slices.Clone(right.Log)
				l[place] = e
				with(l)
			}
		}
	default:
		with(log("a"))
	}
	return list
}

// checkWrong holds that a message has ErrForm, and that nothing comes of it.
func checkWrong(t *testing.T, r *replica.Replica, m pack.Message) {
	t.Helper()
	was, role := r.State(), r.Role()
	out, e := r.Deliver(m)
	if e != api.ErrForm || len(out) != 0 {
		t.Fatalf("%s: %d %s, not ErrForm", shortMessages(one(m)), e, shortMessages(out))
	}
	checkState(t, "a wrong message", r, was, role)
}

// situations are states in which replicas may be, with the views 4 to 6.
func situations() []ledger.State {
	return []ledger.State{state(5, 5, 1, "ab"), state(5, 4, 1, "ab"), state(4, 4, 0, "abc"), state(6, 6, 2, "ab"), state(6, 2, 2, "ab")}
}

// P15.4: ErrForm of a message that isn't right, by each part of it, of each Kind, wherever it comes; also where its View is below its own.
func TestWrong(t *testing.T) {
	for _, n := range []int{3, 5, 7} {
		for id := range n {
			for _, s := range situations() {
				r := made(t, config(n, id), s)
				for _, right := range kinds((id+1)%n, id) {
					for _, m := range spoiltMessages(right) {
						checkWrong(t, r, m)
					}
				}
			}
		}
	}
}

// P15.4: ErrForm of a message for another one, or of itself, or of one that isn't there; of each Kind.
func TestWrongPlaces(t *testing.T) {
	for _, n := range []int{3, 5, 7} {
		for id := range n {
			for _, s := range situations() {
				r := made(t, config(n, id), s)
				for from := range 7 {
					for to := range 7 {
						if to == id && from < n && from != id {
							continue
						}
						for _, m := range kinds(from, to) {
							checkWrong(t, r, m)
						}
					}
				}
				for _, to := range []int{-1, 7, math.MinInt, math.MaxInt} {
					checkWrong(t, r, want(5, (id+1)%n, to))
				}
			}
		}
	}
}

// P15.4: what is right, for it, and of another one that is there, is taken.
func TestRightPlaces(t *testing.T) {
	for _, n := range []int{3, 5, 7} {
		for id := range n {
			for from := range n {
				for _, m := range kinds(from, id) {
					if from == id {
						continue
					}
					for _, s := range situations() {
						if _, e := made(t, config(n, id), s).Deliver(m); e != api.OK {
							t.Fatalf("%s: %d", shortMessages(one(m)), e)
						}
					}
				}
			}
		}
	}
}

// P15.4: a message whose View is below its own does nothing, of whatever Kind; nor is a tick undone by it.
func TestBelow(t *testing.T) {
	for _, n := range []int{3, 5, 7} {
		for id := range n {
			for _, s := range []ledger.State{state(6, 6, 1, "ab"), state(6, 5, 1, "ab"), state(6, 2, 0, ""), state(most, 5, 1, "ab")} {
				r := made(t, config(n, id), s)
				ticks := r.Role() != leader && s.View < most
				if ticks {
					checkTicks(t, r, 2)
				}
				for from := range n {
					for _, m := range kinds(from, id) {
						if from != id {
							checkNothing(t, r, m)
						}
					}
				}
				if ticks {
					checkBegins(t, r, n, id)
				}
			}
		}
	}
}

// P15.4, the Kind 1: an entry that is the next one stands behind the log, as it is, and Commit goes as far as it and the log do.
func TestAddNext(t *testing.T) {
	for _, c := range []struct{ commit, after int }{{0, 1}, {1, 1}, {2, 2}, {3, 3}, {4, 3}, {64, 3}} {
		r := made(t, config(3, 1), state(3, 3, 1, "ab"))
		checkSteps(t, r, step{add(3, 0, 1, 3, c.commit, 'X'), one(ack(3, 1, 0, 3)), state(3, 3, c.after, "abX"), follower})
	}
	r := made(t, config(5, 1), state(0, 0, 0, ""))
	m := add(0, 0, 1, 1, 0, 'a')
	m.Log[0].View, m.Normal = 77, 9
	checkDeliver(t, r, m, ack(0, 1, 0, 1))
	checkState(t, "an entry of another view", r, ledger.State{Active: 3, Log: m.Log}, follower)
}

// following is the Op and the Commit of what the primary says to a log of two entries, the first one committed; whether it is asked for its log, and the Commit behind it.
type following struct {
	op, commit int
	asked      bool
	after      int
}

// checkFollowing holds what comes of messages by which the log stays.
func checkFollowing(t *testing.T, message func(op, commit int) pack.Message, list []following) {
	t.Helper()
	for _, f := range list {
		out := ack(3, 1, 0, 2)
		if f.asked {
			out = ask(3, 1, 0, 2)
		}
		checkSteps(t, made(t, config(3, 1), state(3, 3, 1, "ab")), step{message(f.op, f.commit), one(out), state(3, 3, f.after, "ab"), follower})
	}
}

// P15.4, the Kind 1: an entry that is there already, or too far on, stays away.
func TestAddOthers(t *testing.T) {
	checkFollowing(t, func(op, commit int) pack.Message { return add(3, 0, 1, op, commit, 'c') }, []following{
		{0, 0, false, 1}, {1, 1, false, 1}, {2, 0, false, 1}, {2, 2, false, 2}, {1, 64, false, 2},
		{4, 0, true, 1}, {4, 1, true, 1}, {4, 2, true, 2}, {4, 4, true, 2}, {64, 64, true, 2},
	})
}

// P15.4, the Kind 1: the last entry that there is room for, and none behind it.
func TestAddLast(t *testing.T) {
	r := made(t, config(3, 1), state(0, 0, 0, many(63)))
	s := state(0, 0, 64, many(63)+"X")
	checkSteps(t, r,
		step{add(0, 0, 1, 64, 64, 'X'), one(ack(0, 1, 0, 64)), s, follower},
		step{add(0, 0, 1, 64, 64, 'Y'), one(ack(0, 1, 0, 64)), s, follower})
}

// P15.4, the Kind 1: one entry after another.
func TestAddMany(t *testing.T) {
	r := made(t, config(7, 3), state(14, 14, 0, ""))
	text := ""
	for i, letter := range []rune(many(64)) {
		text += string(letter)
		checkSteps(t, r, step{add(14, 0, 3, i+1, i/2, letter), one(ack(14, 3, 0, i+1)), state(14, 14, i/2, text), follower})
	}
}

// P15.4, the Kind 3: Commit goes as far as it and the log do; it asks, if the log is longer there; no entry comes of it.
func TestBeat(t *testing.T) {
	checkFollowing(t, func(op, commit int) pack.Message { return beat(3, 0, 1, op, commit) }, []following{
		{0, 0, false, 1}, {1, 1, false, 1}, {2, 0, false, 1}, {2, 2, false, 2}, {2, 3, false, 2},
		{3, 0, true, 1}, {3, 2, true, 2}, {3, 3, true, 2}, {4, 1, true, 1}, {64, 64, true, 2},
	})
}

// spoken are the messages that only the primary of their View may say of itself: of the Kinds 1 and 3.
func spoken(view, from, to, op, commit int) []pack.Message {
	return one(add(view, from, to, op, commit, 'c'), beat(view, from, to, op, commit))
}

// P15.4, the Kinds 1 and 3: of who isn't the primary of their View they do nothing, whatever the View; nor is a tick undone.
func TestSpokenByOthers(t *testing.T) {
	checkIdle(t, func(n, id, view, from int) []pack.Message {
		if from == id || from == view%n {
			return nil
		}
		return spoken(view, from, id, 3, 2)
	})
}

// P15.4, the Kinds 1 and 3: who is the primary of its view takes none of its own view, as no other one may say it.
func TestSpokenToLeader(t *testing.T) {
	r := made(t, config(3, 0), state(3, 3, 0, "ab"))
	for _, from := range []int{1, 2} {
		for _, m := range spoken(3, from, 0, 3, 2) {
			checkNothing(t, r, m)
		}
	}
}

// P15.4, the Kinds 1 and 3: a View above its own makes it changing in that view, and it asks; log and Commit stay; whatever it was.
func TestSpokenAbove(t *testing.T) {
	for _, n := range []int{3, 5, 7} {
		for id := range n {
			for _, s := range []ledger.State{state(n, n, 1, "ab"), state(n+2, n+1, 1, "ab"), state(n+id, n+id, 1, "ab"), state(0, 0, 1, "ab")} {
				for view := s.View + 1; view < s.View+2*n; view++ {
					from := view % n
					if from == id {
						continue
					}
					for _, m := range spoken(view, from, id, 3, 2) {
						checkSteps(t, made(t, config(n, id), s), step{m, one(ask(view, id, from, 2)), state(view, s.Normal, 1, "ab"), changing})
					}
				}
			}
		}
	}
	r := made(t, config(3, 2), state(0, 0, 0, "a"))
	checkSteps(t, r, step{beat(most, most%3, 2, 64, 64), one(ask(most, 2, most%3, 1)), state(most, 0, 0, "a"), changing})
}

// P15.4, the Kinds 1 and 3: while it is changing it asks, and takes nothing else of them.
func TestSpokenToChanging(t *testing.T) {
	for _, op := range []int{0, 1, 2, 3, 64} {
		for _, commit := range []int{0, 2, 64} {
			for _, m := range spoken(6, 0, 1, op, commit) {
				checkSteps(t, made(t, config(3, 1), state(6, 5, 1, "ab")), step{m, one(ask(6, 1, 0, 2)), state(6, 5, 1, "ab"), changing})
			}
		}
	}
}

// P15.4, the Kinds 1 and 3: behind them it was quiet for 0 ticks: normal, changing, and in a view above.
func TestSpokenQuiet(t *testing.T) {
	for _, s := range []ledger.State{state(3, 3, 1, "ab"), state(3, 1, 1, "ab"), state(2, 2, 1, "ab"), state(2, 1, 1, "ab")} {
		for _, op := range []int{1, 2, 3, 4} {
			for _, m := range spoken(3, 0, 1, op, 0) {
				r := made(t, config(3, 1), s)
				checkTicks(t, r, 2)
				if _, e := r.Deliver(m); e != api.OK {
					t.Fatalf("%d", e)
				}
				checkTicks(t, r, 2)
				checkBegins(t, r, 3, 1)
			}
		}
	}
}

// P15.4, the Kinds 1 and 3: in a view that it was told of nobody wants it yet, not even itself; it hasn't said what it has, and what it knew is forgotten.
func TestSpokenStarts(t *testing.T) {
	r := made(t, config(5, 1), state(4, 4, 1, "ab"))
	checkDeliver(t, r, beat(5, 0, 1, 2, 0), ask(5, 1, 0, 2))
	checkNothing(t, r, want(5, 2, 1))
	checkNothing(t, r, want(5, 3, 1))
	checkDeliver(t, r, want(5, 4, 1), have(5, 1, 0, 4, 1, "ab"))
	checkNothing(t, r, want(5, 0, 1))
	checkDeliver(t, r, beat(7, 2, 1, 2, 0), ask(7, 1, 2, 2))
	checkNothing(t, r, want(7, 2, 1))
	checkNothing(t, r, want(7, 0, 1))
	checkDeliver(t, r, want(7, 3, 1), have(7, 1, 2, 4, 1, "ab"))
}

// P15.4, the Kinds 1 and 3: the changes of a view are forgotten in the next one.
func TestSpokenChanges(t *testing.T) {
	r := made(t, config(5, 1), state(5, 5, 0, "ab"))
	checkDeliver(t, r, have(6, 2, 1, 5, 0, "abc"), each(5, want(6, 1, 0))...)
	checkDeliver(t, r, beat(7, 2, 1, 2, 0), ask(7, 1, 2, 2))
	checkDeliver(t, r, want(11, 0, 1), each(5, want(11, 1, 0))...)
	checkNothing(t, r, have(11, 3, 1, 5, 0, "a"))
	checkDeliver(t, r, have(11, 4, 1, 5, 0, "a"), each(5, lead(11, 1, 0, 0, "ab"))...)
}

// checkAcks hands acks of the view 0 to its primary, each with the Commit behind it.
func checkAcks(t *testing.T, r *replica.Replica, letters string, acks ...[3]int) {
	t.Helper()
	for _, a := range acks {
		m := ack(0, a[0], 0, a[1])
		m.Commit, m.Normal = 64, most
		checkSteps(t, r, step{m, nil, state(0, 0, a[2], letters), leader})
	}
}

// P15.4, the Kind 2: as many acks that are not below a number as, with itself, are more than half, commit it: of 3, 5 and 7.
func TestAckHalf(t *testing.T) {
	checkAcks(t, made(t, config(3, 0), state(0, 0, 0, "abc")), "abc", [3]int{1, 0, 0}, [3]int{1, 1, 1}, [3]int{2, 1, 1}, [3]int{2, 2, 2}, [3]int{1, 3, 3})
	checkAcks(t, made(t, config(5, 0), state(0, 0, 0, "abc")), "abc",
		[3]int{1, 3, 0}, [3]int{2, 0, 0}, [3]int{2, 1, 1}, [3]int{3, 2, 2}, [3]int{4, 2, 2}, [3]int{4, 3, 3}, [3]int{2, 3, 3})
	checkAcks(t, made(t, config(7, 0), state(0, 0, 0, "abc")), "abc",
		[3]int{6, 3, 0}, [3]int{5, 3, 0}, [3]int{4, 0, 0}, [3]int{4, 1, 1}, [3]int{3, 1, 1}, [3]int{2, 2, 2}, [3]int{1, 3, 3})
}

// P15.4, the Kind 2: one's acks count once, however often it sends them.
func TestAckAgain(t *testing.T) {
	checkAcks(t, made(t, config(5, 0), state(0, 0, 0, "abc")), "abc", [3]int{1, 3, 0}, [3]int{1, 3, 0}, [3]int{1, 2, 0}, [3]int{1, 3, 0}, [3]int{3, 3, 3})
	checkAcks(t, made(t, config(7, 0), state(0, 0, 0, "abc")), "abc", [3]int{1, 3, 0}, [3]int{2, 3, 0}, [3]int{1, 3, 0}, [3]int{2, 3, 0}, [3]int{3, 2, 2})
}

// P15.4, the Kind 2: an ack is no more than the length of then; a lesser one behind a greater one changes nothing.
func TestAckBounds(t *testing.T) {
	checkAcks(t, made(t, config(3, 0), state(0, 0, 0, "abc")), "abc", [3]int{1, 2, 2}, [3]int{1, 1, 2}, [3]int{1, 0, 2}, [3]int{1, 64, 3})
	checkAcks(t, made(t, config(5, 0), state(0, 0, 0, "abc")), "abc", [3]int{1, 3, 0}, [3]int{1, 1, 0}, [3]int{2, 2, 2})
	r := made(t, config(5, 0), state(0, 0, 0, "a"))
	checkAcks(t, r, "a", [3]int{1, 3, 0}, [3]int{2, 64, 1})
	checkSubmit(t, r, entry('b'), each(5, add(0, 0, 0, 2, 1, 'b'))...)
	checkSubmit(t, r, entry('c'), each(5, add(0, 0, 0, 3, 1, 'c'))...)
	checkAcks(t, r, "abc", [3]int{3, 3, 1}, [3]int{4, 2, 2}, [3]int{2, 3, 3})
	checkAcks(t, made(t, config(3, 0), state(0, 0, 0, "")), "", [3]int{1, 0, 0}, [3]int{2, 1, 0}, [3]int{1, 64, 0})
}

// P15.4, the Kind 2: what is committed stays so; acks below it bring nothing.
func TestAckStays(t *testing.T) {
	checkAcks(t, made(t, config(3, 0), state(0, 0, 2, "abc")), "abc", [3]int{1, 0, 2}, [3]int{1, 1, 2}, [3]int{2, 2, 2}, [3]int{2, 3, 3})
	checkAcks(t, made(t, config(5, 0), state(0, 0, 3, "abc")), "abc", [3]int{1, 1, 3}, [3]int{2, 2, 3}, [3]int{3, 3, 3}, [3]int{4, 3, 3})
}

// P15.4, the Kind 2: it does nothing, where its View isn't its own, or the role isn't 1; a tick isn't undone by it.
func TestAckElsewhere(t *testing.T) {
	r := made(t, config(3, 0), state(0, 0, 0, "abc"))
	for _, view := range []int{1, 2, 3, 6, most} {
		checkNothing(t, r, ack(view, 1, 0, 3))
	}
	checkAcks(t, r, "abc", [3]int{2, 0, 0}, [3]int{1, 1, 1})
	for _, s := range []ledger.State{state(3, 3, 0, "abc"), state(3, 2, 0, "abc"), state(4, 3, 0, "abc")} {
		r := made(t, config(3, 1), s)
		if s.View == 4 {
			checkTicks(t, r, 1)
		}
		checkTicks(t, r, 1)
		for _, m := range one(ack(s.View, 0, 1, 3), ack(s.View, 2, 1, 3), ack(7, 0, 1, 3)) {
			checkNothing(t, r, m)
		}
		if s.View != 4 {
			checkTicks(t, r, 1)
		}
		checkBegins(t, r, 3, 1)
	}
}

// P15.4, the Kind 2: acks that came while it was changing count for nothing when it is the primary.
func TestAckWhileChanging(t *testing.T) {
	r := made(t, config(3, 0), state(3, 2, 0, "abc"))
	checkNothing(t, r, ack(3, 1, 0, 3))
	checkDeliver(t, r, have(3, 2, 0, 2, 0, "ab"), each(3, lead(3, 0, 0, 0, "abc"))...)
	checkSteps(t, r, step{ack(3, 2, 0, 1), nil, state(3, 3, 1, "abc"), leader})
}

// P15.4, the Kind 2: acks of an earlier view are forgotten, however it was left.
func TestAckForgotten(t *testing.T) {
	leave := []func(r *replica.Replica){
		func(r *replica.Replica) { checkDeliver(t, r, want(1, 2, 0), each(5, want(1, 0, 0))...) },
		func(r *replica.Replica) { checkDeliver(t, r, beat(1, 1, 0, 0, 0), ask(1, 0, 1, 2)) },
		func(r *replica.Replica) { checkDeliver(t, r, lead(1, 1, 0, 0, "ab"), ack(1, 0, 1, 2)) },
		func(r *replica.Replica) {},
	}
	for _, do := range leave {
		r := made(t, config(5, 0), state(0, 0, 0, "ab"))
		checkNothing(t, r, ack(0, 1, 0, 2))
		do(r)
		checkDeliver(t, r, have(5, 3, 0, 0, 0, ""), each(5, want(5, 0, 0))...)
		checkDeliver(t, r, have(5, 4, 0, 0, 0, ""), each(5, lead(5, 0, 0, 0, "ab"))...)
		checkSteps(t, r, step{ack(5, 2, 0, 2), nil, state(5, 5, 0, "ab"), leader}, step{ack(5, 3, 0, 1), nil, state(5, 5, 1, "ab"), leader})
	}
}
