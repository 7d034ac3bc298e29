package node_test

import (
	"math/rand"
	"slices"
	"testing"

	"colander/api"
	"colander/history"
	"colander/ledger"
	"colander/node"
	"colander/pack"
	"colander/replica"
	"colander/sieve"
)

// run is several nodes, what is under way between them, and all that they ever had committed, or told a client.
type run struct {
	rng       *rand.Rand
	nodes     []*pair
	last      []ledger.State // with which each of them last answered
	under     []pack.Message
	committed []pack.Entry // the longest one of all so far
	told      map[[2]int]history.Outcome
	counts    tally
}

// newRun begins on empty tapes.
func newRun(t *testing.T, seed int64, n int, counts tally) *run {
	t.Helper()
	w := &run{rng: rand.New(rand.NewSource(seed)), last: make([]ledger.State, n), told: map[[2]int]history.Outcome{}, counts: counts}
	for id := range n {
		w.nodes = append(w.nodes, paired(t, replica.Config{N: n, ID: id, Timeout: 3}, ledger.State{}))
	}
	return w
}

// stands holds that a node keeps what was committed, and that nobody has unlike entries committed.
func (w *run) stands(t *testing.T, id int) {
	t.Helper()
	was, s := w.last[id], w.nodes[id].n.State()
	if s.View < was.View || s.Normal < was.Normal || s.Commit < was.Commit {
		t.Fatalf("%d: %+v behind %+v", id, s, was)
	}
	both := min(s.Commit, len(w.committed))
	if !pack.Same(s.Log[:both], w.committed[:both]) {
		t.Fatalf("%d has unlike entries committed: %+v, not %+v", id, s.Log[:s.Commit], w.committed)
	}
	if s.Commit > both {
		w.committed = s.Log[:s.Commit]
	}
	w.last[id] = s
}

// answered takes what came of a step: what a client was told must stay so.
func (w *run) answered(t *testing.T, id int, a node.Answer) {
	t.Helper()
	w.counts.answer(w.nodes[id], a)
	if w.nodes[id].n.Stopped() {
		return
	}
	w.stands(t, id)
	w.under = append(w.under, a.Out...)
	for _, r := range a.Replies {
		key := [2]int{r.Client, r.Request}
		if o, ok := w.told[key]; ok && o != r.Outcome {
			t.Fatalf("%d: a client was told %+v, and now %+v", id, o, r)
		}
		w.told[key] = r.Outcome
	}
}

// power takes a node's power away, and starts it again: it has the state with which it last answered, or one that keeps it.
func (w *run) power(t *testing.T, id, keep int) {
	t.Helper()
	x := w.nodes[id]
	stopped := x.n.Stopped()
	x.crash(keep, nil)
	x.start(t)
	if !stopped && !sameState(x.n.State(), w.last[id]) {
		t.Fatalf("%d: %+v, not %+v", id, x.n.State(), w.last[id])
	}
	w.stands(t, id)
}

// says holds that what is said of a text bears the active version, and is what the set says that all have agreed on.
func (w *run) says(t *testing.T, id int) {
	t.Helper()
	x := w.nodes[id]
	h, _ := past(ledger.State{Log: w.committed, Commit: len(w.committed)})
	for _, doc := range []string{"", "xaab", "cb"} {
		said := x.classify(t, doc, 1)
		if !said.Ready {
			continue
		}
		set, ok := h.Set(said.Version)
		v, _ := sieve.Make(set)
		if !ok || said.Version != w.last[id].Active || said.Answer != v.Classify([]byte(doc), 1) {
			t.Fatalf("%d: %+v", id, said)
		}
		w.counts["said"]++
	}
}

// submit asks for something new, or again.
func (w *run) submit(t *testing.T, id int) node.Answer {
	t.Helper()
	e := grownEntry(w.rng, 0, 2+len(w.committed))
	a := w.nodes[id].submit(t, e.Client, e.Request, e.Delta)
	w.answered(t, id, a)
	return a
}

// deliver takes the message at a place.
func (w *run) deliver(t *testing.T, place int) {
	t.Helper()
	m := w.under[place]
	w.under = slices.Delete(w.under, place, place+1)
	w.answered(t, m.To, w.nodes[m.To].deliver(t, m))
}

// mishap is one thing of any kind.
func (w *run) mishap(t *testing.T) {
	t.Helper()
	id := w.rng.Intn(len(w.nodes))
	x := w.nodes[id]
	switch n := w.rng.Intn(64); {
	case n < 6:
		w.answered(t, id, x.tick(t))
	case n < 14:
		w.submit(t, id)
	case n < 16:
		x.activate(t, 1+w.rng.Intn(x.n.Status().Version+1))
		w.answered(t, id, node.Answer{})
	case n < 18:
		w.says(t, id)
	case n < 19:
		x.arm(w.rng.Intn(6))
	case n < 21 || x.n.Stopped() && n < 40:
		w.power(t, id, w.rng.Intn(600))
	case len(w.under) == 0:
	case n < 24:
		place := w.rng.Intn(len(w.under))
		w.under = slices.Delete(w.under, place, place+1)
	case n < 26:
		w.under = append(w.under, w.under[w.rng.Intn(len(w.under))])
	case n < 45:
		w.deliver(t, 0)
	default:
		w.deliver(t, w.rng.Intn(len(w.under)))
	}
}

// round is a tick of each, and then all that is under way, in order.
func (w *run) round(t *testing.T) {
	t.Helper()
	for id, x := range w.nodes {
		w.answered(t, id, x.tick(t))
	}
	for n := 0; n < 4096 && len(w.under) > 0; n++ {
		w.deliver(t, 0)
	}
}

// heals holds that behind (N + 2) (Timeout + 2) rounds without mishaps there is one primary, whose entries are all committed everywhere; what it takes then is replied to, and makes what the history says.
func (w *run) heals(t *testing.T) {
	t.Helper()
	n := len(w.nodes)
	for id := range w.nodes {
		w.power(t, id, 0)
	}
	for range (n + 2) * 5 {
		w.round(t)
	}
	first := slices.IndexFunc(w.nodes, func(x *pair) bool { return x.n.Status().Role == primary })
	if first < 0 {
		t.Fatal("there is no primary")
	}
	a := w.submit(t, first)
	told := len(w.told)
	for range 3 {
		w.round(t)
	}
	if a.E == api.OK && len(w.told) == told {
		t.Fatal("what was submitted isn't replied to")
	}
	want := w.nodes[first].n.State()
	for id, x := range w.nodes {
		if s := x.n.State(); s.View != want.View || s.Commit != len(want.Log) || !pack.Same(s.Log, want.Log) {
			t.Fatalf("%d: %+v, not %+v", id, s, want)
		}
	}
	h, all := past(want)
	if v := w.nodes[first].n.Status().Version; v != h.Version() {
		t.Fatalf("%d versions, not %d", v, h.Version())
	}
	for _, r := range all {
		if o, ok := w.told[[2]int{r.Client, r.Request}]; ok && o != r.Outcome {
			t.Fatalf("a client was told %+v, and it is %+v", o, r)
		}
	}
}

// P3 of one node: whole runs of 3, 5 and 7, in which messages are lost, doubled and late, and the power goes at any call of a tape.
func TestRuns(t *testing.T) {
	counts := tally{}
	for seed := range 36 {
		w := newRun(t, int64(seed), 3+2*(seed%3), counts)
		for range 150 + w.rng.Intn(350) {
			w.mishap(t)
		}
		w.heals(t)
	}
	for _, what := range []string{"replies", "stopped", "said", "primary"} {
		if counts[what] < 20 {
			t.Errorf("%s: %d times only", what, counts[what])
		}
	}
}
