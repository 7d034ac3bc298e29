package replica_test

import (
	"math/rand"
	"slices"
	"testing"

	"colander/api"
	"colander/ledger"
	"colander/pack"
	"colander/replica"
)

// run is several replicas, each with the second way beside it, and the messages between them.
type run struct {
	rng       *rand.Rand
	configs   []replica.Config
	pairs     []*pair
	up        []bool
	under     []pack.Message // under way
	committed []pack.Entry   // the longest one of all so far
	requests  int
}

// newRun begins with empty logs.
func newRun(t *testing.T, rng *rand.Rand, n int) *run {
	t.Helper()
	w := &run{rng: rng, up: slices.Repeat([]bool{true}, n)}
	for id := range n {
		w.configs = append(w.configs, replica.Config{N: n, ID: id, Timeout: 2 + n/3})
		w.pairs = append(w.pairs, paired(t, w.configs[id], ledger.State{}))
	}
	return w
}

// state is what a replica would keep.
func (w *run) state(id int) ledger.State { return w.pairs[id].p.s }

// sent holds what a replica said and became, and puts the messages under way.
func (w *run) sent(t *testing.T, id int, was ledger.State, out []pack.Message) {
	t.Helper()
	for _, m := range out {
		if !m.Right() || m.From != id || m.To == id || m.To >= len(w.pairs) || m.View != w.state(id).View {
			t.Fatalf("%d said %s", id, shortMessages(one(m)))
		}
	}
	s := w.state(id)
	if !s.Right() || s.View < was.View || s.Normal < was.Normal || s.Commit < was.Commit || !pack.Same(s.Log[:was.Commit], was.Log[:was.Commit]) {
		t.Fatalf("%d: %s, behind %s", id, shortState(s), shortState(was))
	}
	both := min(s.Commit, len(w.committed))
	if !pack.Same(s.Log[:both], w.committed[:both]) {
		t.Fatalf("%d: %s has unlike entries committed: %q", id, shortState(s), short(w.committed))
	}
	if s.Commit > both {
		w.committed = s.Log[:s.Commit:s.Commit]
	}
	w.under = append(w.under, out...)
}

func (w *run) tick(t *testing.T, id int) {
	t.Helper()
	was := w.state(id)
	w.sent(t, id, was, w.pairs[id].tick(t))
}

// submit asks for something new; whether it was taken.
func (w *run) submit(t *testing.T, id int) bool {
	t.Helper()
	was := w.state(id)
	w.requests++
	e := entry(rune("aX"[w.requests%2]))
	e.Client, e.Request = 1+w.requests%100, w.requests
	out, err := w.pairs[id].submit(t, e)
	w.sent(t, id, was, out)
	return err == api.OK
}

// deliver takes the message at a place.
func (w *run) deliver(t *testing.T, place int) {
	t.Helper()
	m := w.under[place]
	w.under = slices.Delete(w.under, place, place+1)
	if was := w.state(m.To); w.up[m.To] {
		w.sent(t, m.To, was, w.pairs[m.To].deliver(t, m))
	}
}

// again starts a replica anew from what it kept.
func (w *run) again(t *testing.T, id int) {
	t.Helper()
	w.pairs[id] = paired(t, w.configs[id], w.state(id))
}

// mishap is one thing of any kind, of which some are more frequent in some runs.
func (w *run) mishap(t *testing.T, loss int) {
	t.Helper()
	id := w.rng.Intn(len(w.pairs))
	switch n := w.rng.Intn(60); {
	case n < 8:
		w.tick(t, id)
	case n < 12:
		w.submit(t, id)
	case n < 13 && w.rng.Intn(4) == 0:
		w.again(t, id)
	case len(w.under) == 0:
	case n < 13+loss:
		place := w.rng.Intn(len(w.under))
		w.under = slices.Delete(w.under, place, place+1)
	case n < 15+loss:
		w.under = append(w.under, w.under[w.rng.Intn(len(w.under))])
	case n < 40:
		w.deliver(t, 0)
	default:
		w.deliver(t, w.rng.Intn(len(w.under)))
	}
	if len(w.under) > 300 {
		w.under = w.under[len(w.under)-300:]
	}
}

// round is a tick of each, and then all that is under way, in order.
func (w *run) round(t *testing.T) {
	t.Helper()
	for id := range w.pairs {
		if w.up[id] {
			w.tick(t, id)
		}
	}
	for n := 0; n < 4096 && len(w.under) > 0; n++ {
		w.deliver(t, 0)
	}
}

// stable is the primary of a view in which it and others, more than half, are up and normal; -1, if there is none.
func (w *run) stable() int {
	best, primary := -1, -1
	for id := range w.pairs {
		view, count := w.state(id).View, 0
		for other := range w.pairs {
			if w.up[other] && w.pairs[other].p.role() != changing && w.state(other).View == view {
				count++
			}
		}
		if w.up[id] && w.pairs[id].p.role() == leader && count > len(w.pairs)/2 && view > best {
			best, primary = view, id
		}
	}
	return primary
}

// checkHeals holds that a view is stable behind (N + 2) (Timeout + 2) rounds without mishaps, and that what its primary takes then is committed, also at the others.
func (w *run) checkHeals(t *testing.T) {
	t.Helper()
	n := len(w.pairs)
	for range (n + 2) * (w.configs[0].Timeout + 2) {
		w.round(t)
	}
	primary := w.stable()
	if primary < 0 {
		t.Fatalf("no view is stable")
	}
	taken := w.submit(t, primary)
	for range 3 {
		w.round(t)
	}
	for id := range w.pairs {
		if s := w.state(id); w.up[id] && (s.View != w.state(primary).View || !taken && len(s.Log) < api.MaxLog || s.Commit < len(w.state(primary).Log)) {
			t.Fatalf("%d: %s, and the primary %s", id, shortState(s), shortState(w.state(primary)))
		}
	}
}

// Whole runs of 3, 5 and 7, in which messages are lost, doubled, late and in any order, and replicas are started anew: no two have unlike entries committed, what is committed stays so, both ways do the same, and it all heals, also with less than half of them off.
func TestRuns(t *testing.T) {
	for seed := range 120 {
		rng := rand.New(rand.NewSource(int64(seed)))
		n := 3 + 2*(seed%3)
		w := newRun(t, rng, n)
		loss := []int{0, 1, 4, 15}[rng.Intn(4)]
		for range 200 + rng.Intn(600) {
			w.mishap(t, loss)
		}
		for _, id := range rng.Perm(n)[:rng.Intn(n/2+1)] {
			w.up[id] = false
		}
		w.checkHeals(t)
		if len(w.committed) == 0 {
			t.Fatalf("the run %d has nothing committed", seed)
		}
	}
}

// A run without mishaps: what is submitted is committed at the primary as soon as more than half have it, and at all in the next round.
func TestRunQuietly(t *testing.T) {
	for _, n := range []int{3, 5, 7} {
		w := newRun(t, rand.New(rand.NewSource(1)), n)
		for i := range api.MaxLog {
			if !w.submit(t, 0) {
				t.Fatalf("the entry %d", i)
			}
			w.round(t)
			for id := range n {
				s := w.state(id)
				if s.View != 0 || len(s.Log) != i+1 || s.Commit != i+1 && (id == 0 || s.Commit != i) {
					t.Fatalf("%d behind the round %d: %s", id, i, shortState(s))
				}
			}
		}
	}
}

// With more than half of them off nothing is committed any more.
func TestRunHalfOff(t *testing.T) {
	for _, n := range []int{3, 5, 7} {
		w := newRun(t, rand.New(rand.NewSource(1)), n)
		for id := n / 2; id < n; id++ {
			w.up[id] = false
		}
		w.submit(t, 0)
		for range 40 {
			w.round(t)
		}
		if w.stable() >= 0 || len(w.committed) != 0 {
			t.Fatalf("%d of %d: %q", n/2, n, short(w.committed))
		}
	}
}

// The document's examples 6 and 7: the primary goes off, and the others go on with the longest log of the newest view; when it is back it hears of that, asks, and takes the log over.
func TestRunPrimaryOff(t *testing.T) {
	w := newRun(t, rand.New(rand.NewSource(1)), 3)
	w.submit(t, 0)
	w.round(t)
	w.up[0] = false
	w.submit(t, 0) // nobody hears of this one
	w.under = nil
	for range w.configs[0].Timeout + 2 {
		w.round(t)
	}
	if w.stable() != 1 || w.state(2).Commit != 1 || w.state(1).View != 1 {
		t.Fatalf("%s, %s", shortState(w.state(1)), shortState(w.state(2)))
	}
	w.submit(t, 1)
	w.round(t)
	w.up[0] = true
	w.round(t)
	w.round(t)
	if s := w.state(0); s.View != 1 || s.Normal != 1 || s.Commit != 2 || !pack.Same(s.Log, w.state(1).Log) {
		t.Fatalf("%s, and the primary %s", shortState(s), shortState(w.state(1)))
	}
}
