package replica_test

import (
	"testing"

	"colander/api"
	"colander/pack"
	"colander/replica"
)

// request is a small entry of a client.
func request(client, number int) pack.Entry {
	e := entry('a')
	e.Client, e.Request = client, number
	return e
}

// inView is an entry as it stands in the log of a view's primary.
func inView(view int, e pack.Entry) pack.Entry {
	e.View = view
	return e
}

// P15.2: an entry stands behind the log with the primary's view, and is said to each of the others by rising number, with the length and Commit of then.
func TestSubmit(t *testing.T) {
	for _, n := range []int{3, 5, 7} {
		for id := range n {
			view := 7*n + id
			r := made(t, config(n, id), state(view, view, 1, "aX"))
			s := state(view, view, 1, "aX")
			for i, e := range []pack.Entry{entry('b'), entry('Y'), inView(3, entry('c')), inView(most, entry('Z'))} {
				m := pack.Message{Kind: 1, View: view, From: id, Op: 3 + i, Commit: 1, Log: []pack.Entry{inView(view, e)}}
				checkSubmit(t, r, e, each(n, m)...)
				s.Log = append(s.Log, inView(view, e))
				checkState(t, "submitted", r, s, leader)
			}
		}
	}
}

// P15.2: the first entry of all, and those up to the last one that there is room for; then ErrFull.
func TestSubmitFull(t *testing.T) {
	r := made(t, config(3, 0), state(0, 0, 0, ""))
	for i := range api.MaxLog {
		out, e := r.Submit(request(1, i+1))
		if e != api.OK || len(out) != 2 || out[0].Op != i+1 || out[1].Op != i+1 || len(r.State().Log) != i+1 {
			t.Fatalf("the entry %d: %d %s", i, e, shortMessages(out))
		}
	}
	for _, e := range []pack.Entry{request(1, 65), request(2, 1), entry('X')} {
		checkRefused(t, r, e, api.ErrFull)
	}
	checkDeliver(t, r, ack(0, 1, 0, 64))
	checkRefused(t, r, request(1, 65), api.ErrFull)
	if s := r.State(); s.Commit != 64 || len(s.Log) != 64 {
		t.Fatalf("%s", shortState(s))
	}
	r = made(t, config(3, 0), state(0, 0, 0, many(63)))
	checkSubmit(t, r, inView(0, entry('Y')), add(0, 0, 1, 64, 0, 'Y'), add(0, 0, 2, 64, 0, 'Y'))
	checkRefused(t, r, entry('Z'), api.ErrFull)
}

// P15.2: ErrRole, wherever it isn't the primary of its view, or not normal; of whatever entry.
func TestSubmitRole(t *testing.T) {
	entries := append(wrongEntries(), entry('b'), entry('a'), entry('X'), request('a', 4), request('a', 9), pack.Entry{})
	for _, n := range []int{3, 5, 7} {
		for id := range n {
			for view := range 2 * n {
				for _, normal := range []int{view, view - 1} {
					if normal < 0 || normal == view && view%n == id {
						continue
					}
					r := made(t, config(n, id), state(view, normal, 1, "aX"))
					for _, e := range entries {
						checkRefused(t, r, e, api.ErrRole)
					}
				}
			}
		}
	}
	r := made(t, config(3, 0), state(0, 0, 0, many(64)))
	checkDeliver(t, r, beat(1, 1, 0, 64, 0), ask(1, 0, 1, 64))
	for _, e := range entries {
		checkRefused(t, r, e, api.ErrRole)
	}
}

// P15.2: ErrForm of an entry that isn't right, ahead of what the log has against it.
func TestSubmitWrong(t *testing.T) {
	for _, letters := range []string{"", "a", "az", "z", many(64)} {
		for commit := range length(letters)/2 + 1 {
			r := made(t, config(3, 0), state(3, 3, commit, letters))
			for _, e := range append(wrongEntries(), pack.Entry{}) {
				checkRefused(t, r, e, api.ErrForm)
			}
		}
	}
	r := made(t, config(3, 0), state(3, 3, 1, "a"))
	e := entry('a')
	e.View = -1
	checkRefused(t, r, e, api.ErrForm)
	e.View, e.Request = most+1, 1
	checkRefused(t, r, e, api.ErrForm)
}

// clientLog is the replica 0 of three, whose log has a client's requests 3 and 7 among the first Commit, 11 and 13 behind them, and others' between.
func clientLog(t *testing.T) *replica.Replica {
	t.Helper()
	s := state(0, 0, 4, "")
	for _, e := range []pack.Entry{request(2, 50), request(1, 3), request(1, 7), request(3, 7), request(2, 51), request(1, 11), request(1, 13), request(4, 1)} {
		s.Log = append(s.Log, e)
	}
	return made(t, config(3, 0), s)
}

// P15.2: ErrTwice of a client's request that is below one in the log, or one of the first Commit; ErrBusy of its greatest one, while it stands behind them; of others' requests nothing.
func TestSubmitTwice(t *testing.T) {
	r := clientLog(t)
	for number := 1; number <= 12; number++ {
		checkRefused(t, r, request(1, number), api.ErrTwice)
	}
	checkRefused(t, r, request(1, 13), api.ErrBusy)
	checkRefused(t, r, request(2, 49), api.ErrTwice)
	checkRefused(t, r, request(2, 50), api.ErrTwice)
	checkRefused(t, r, request(2, 51), api.ErrBusy)
	checkRefused(t, r, request(3, 6), api.ErrTwice)
	checkRefused(t, r, request(3, 7), api.ErrTwice)
	checkRefused(t, r, request(4, 1), api.ErrBusy)
	for _, e := range []pack.Entry{request(1, 14), request(2, 52), request(3, 8), request(4, 2), request(5, 1), request(6, most), request(most, 1)} {
		checkSubmit(t, clientLog(t), e, each(3, pack.Message{Kind: 1, From: 0, Op: 9, Commit: 4, Log: []pack.Entry{e}})...)
	}
}

// P15.2: what another delta asks for with the same request is refused like it.
func TestSubmitOtherDelta(t *testing.T) {
	r := clientLog(t)
	e := entry('X')
	e.Client, e.Request = 1, 13
	checkRefused(t, r, e, api.ErrBusy)
	e.Client, e.Request = 3, 7
	checkRefused(t, r, e, api.ErrTwice)
}

// P15.2: the same request, as Commit goes over it: ErrBusy till then, ErrTwice from then on.
func TestSubmitBusyThenTwice(t *testing.T) {
	r := made(t, config(5, 0), state(0, 0, 0, "ab"))
	checkRefused(t, r, entry('a'), api.ErrBusy)
	checkRefused(t, r, entry('b'), api.ErrBusy)
	checkDeliver(t, r, ack(0, 1, 0, 1))
	checkDeliver(t, r, ack(0, 2, 0, 1))
	checkRefused(t, r, entry('a'), api.ErrTwice)
	checkRefused(t, r, entry('b'), api.ErrBusy)
	checkDeliver(t, r, ack(0, 1, 0, 2))
	checkDeliver(t, r, ack(0, 2, 0, 2))
	checkRefused(t, r, entry('b'), api.ErrTwice)
}

// P15.2: one request may stand in a log twice, on both sides of Commit: ErrTwice goes ahead of ErrBusy; both of them ahead of ErrFull.
func TestSubmitOrder(t *testing.T) {
	s := state(0, 0, 1, "")
	s.Log = []pack.Entry{request(1, 5), request(1, 5), request(2, 5)}
	r := made(t, config(3, 0), s)
	checkRefused(t, r, request(1, 5), api.ErrTwice)
	checkRefused(t, r, request(2, 5), api.ErrBusy)
	s.Log = []pack.Entry{request(2, 5), request(1, 5), request(1, 6)}
	r = made(t, config(3, 0), s)
	checkRefused(t, r, request(1, 5), api.ErrTwice) // behind Commit, but a greater one too
	checkRefused(t, r, request(1, 6), api.ErrBusy)
	s.Log = []pack.Entry{request(2, 5), request(1, 6), request(1, 5)}
	r = made(t, config(3, 0), s)
	checkRefused(t, r, request(1, 5), api.ErrTwice) // the greater one may come first
	checkRefused(t, r, request(1, 6), api.ErrBusy)
	r = made(t, config(3, 0), state(0, 0, 2, many(64)))
	checkRefused(t, r, request('a', 5), api.ErrTwice)
	checkRefused(t, r, request('b', 5), api.ErrTwice)
	checkRefused(t, r, request('c', 4), api.ErrTwice)
	checkRefused(t, r, request('c', 5), api.ErrBusy)
	checkRefused(t, r, request('c', 6), api.ErrFull)
	checkRefused(t, r, pack.Entry{}, api.ErrForm)
}

// P15.3: a primary says that it is there to each of the others, by rising number, with the length and Commit of then; however many ticks go by.
func TestTickLeader(t *testing.T) {
	for _, n := range []int{3, 5, 7} {
		for id := range n {
			for _, timeout := range []int{2, 3, 100} {
				s := state(2*n+id, 2*n+id, 1, "abc")
				r := made(t, replica.Config{N: n, ID: id, Timeout: timeout}, s)
				for range 2*timeout + 1 {
					checkOut(t, "tick", r.Tick(), each(n, beat(s.View, id, 0, 3, 1)))
					checkState(t, "tick", r, s, leader)
				}
			}
		}
	}
	r := made(t, config(3, 0), state(0, 0, 0, ""))
	checkOut(t, "tick", r.Tick(), each(3, beat(0, 0, 0, 0, 0)))
	checkSubmit(t, r, entry('a'), each(3, add(0, 0, 0, 1, 0, 'a'))...)
	checkOut(t, "tick", r.Tick(), each(3, beat(0, 0, 0, 1, 0)))
	checkDeliver(t, r, ack(0, 1, 0, 1))
	checkOut(t, "tick", r.Tick(), each(3, beat(0, 0, 0, 1, 1)))
}

// P15.3: the ticks of a primary are no ticks that it was quiet for.
func TestTickLeaderNotQuiet(t *testing.T) {
	r := made(t, config(3, 0), state(0, 0, 0, ""))
	for range 2 {
		checkOut(t, "tick", r.Tick(), each(3, beat(0, 0, 0, 0, 0)))
	}
	checkDeliver(t, r, beat(1, 1, 0, 0, 0), ask(1, 0, 1, 0))
	checkTicks(t, r, 2)
	checkBegins(t, r, 3, 0)
}

// P15.3: others are quiet till the tick that is the Timeout, which begins the next view; and so for each view, as nobody says anything; whether normal or changing.
func TestTickOthers(t *testing.T) {
	for _, n := range []int{3, 5, 7} {
		for id := range n {
			for _, timeout := range []int{2, 3, 17, 100} {
				for _, s := range []int{0, 1} {
					r := made(t, replica.Config{N: n, ID: id, Timeout: timeout}, state(n+id+1, n+id+1-s, 1, "ab"))
					for range n + 1 {
						checkTicks(t, r, timeout-1)
						checkBegins(t, r, n, id)
					}
				}
			}
		}
	}
}

// P15.3: behind the greatest view there is none, however many ticks go by.
func TestTickLast(t *testing.T) {
	for _, id := range []int{0, 1, 2} {
		for _, s := range []int{0, 1} {
			if s == 0 && most%3 == id {
				continue
			}
			r := made(t, config(3, id), state(most, most-s, 1, "ab"))
			checkTicks(t, r, 20)
			checkDeliver(t, r, ack(most, (id+1)%3, id, 1))
			checkTicks(t, r, 20)
		}
		r := made(t, replica.Config{N: 3, ID: id, Timeout: 2}, state(most-1, most-2, 1, "ab"))
		checkTicks(t, r, 1)
		checkBegins(t, r, 3, id)
		checkTicks(t, r, 20)
	}
}

// P15.3: in the greatest view, too, a primary says that it is there.
func TestTickLastLeader(t *testing.T) {
	r := made(t, config(3, most%3), state(most, most, 1, "ab"))
	for range 5 {
		checkOut(t, "tick", r.Tick(), each(3, beat(most, most%3, 0, 2, 1)))
	}
}
