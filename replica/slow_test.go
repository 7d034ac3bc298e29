package replica_test

import (
	"fmt"
	"math/rand"
	"slices"
	"testing"

	"colander/api"
	"colander/ledger"
	"colander/pack"
	"colander/replica"
)

// second is the chapter a second time: it keeps what it heard in its view, and looks through all of it whenever it is asked.
type second struct {
	n, id, timeout int
	s              ledger.State
	changing       bool
	quiet          int
	heard          []pack.Message // of the Kinds 2, 4 and 5
	said           bool
}

// begun is one of a right config and a right state.
func begun(c replica.Config, s ledger.State) *second {
	return &second{n: c.N, id: c.ID, timeout: c.Timeout, s: s, changing: s.View != s.Normal}
}

func (p *second) primary() int { return p.s.View % p.n }

func (p *second) role() int {
	if p.changing {
		return 2
	}
	if p.primary() == p.id {
		return 1
	}
	return 0
}

// say is a message with just these parts.
func (p *second) say(to, kind, op, commit, normal int, log []pack.Entry) pack.Message {
	return pack.Message{Kind: kind, View: p.s.View, From: p.id, To: to, Op: op, Commit: commit, Normal: normal, Log: slices.Clone(log)}
}

func (p *second) sayAll(kind, op, commit int, log []pack.Entry) []pack.Message {
	return each(p.n, p.say(0, kind, op, commit, 0, log))
}

// last are the last messages of a Kind that it heard in its view, by sender; of the Kind 2 those with the greatest Op.
func (p *second) last(kind int) []pack.Message {
	var list []pack.Message
	for from := range p.n {
		var found []pack.Message
		for _, m := range p.heard {
			if m.Kind == kind && m.From == from && (kind != 2 || len(found) == 0 || m.Op > found[0].Op) {
				found = one(m)
			}
		}
		list = append(list, found...)
	}
	return list
}

// half is how many more than half are.
func (p *second) half() int { return p.n/2 + 1 }

func (p *second) begin(view int) []pack.Message {
	p.s.View, p.changing, p.quiet, p.said = view, true, 0, false
	p.heard = one(pack.Message{Kind: 4, From: p.id})
	return p.sayAll(4, 0, 0, nil)
}

func (p *second) see() []pack.Message {
	if p.said || len(p.last(4)) < p.half() {
		return nil
	}
	p.said = true
	if p.primary() == p.id {
		return p.decide()
	}
	return one(p.say(p.primary(), 5, len(p.s.Log), p.s.Commit, p.s.Normal, p.s.Log))
}

// fitting tells whether a log has the same first entries as its own.
func (p *second) fitting(log []pack.Entry, first int) bool {
	for i, e := range p.s.Log {
		if i < first && (i >= len(log) || !pack.Same([]pack.Entry{e}, log[i:i+1])) {
			return false
		}
	}
	return true
}

func (p *second) decide() []pack.Message {
	changes := p.last(5)
	if len(changes)+1 < p.half() {
		return nil
	}
	list := one(p.say(0, 5, 0, p.s.Commit, p.s.Normal, p.s.Log))
	for _, m := range changes {
		if p.fitting(m.Log, p.s.Commit) {
			list = append(list, m)
		}
	}
	for _, m := range list {
		p.s.Commit = max(p.s.Commit, m.Commit)
	}
	slices.SortStableFunc(list, func(a, b pack.Message) int {
		if a.Normal != b.Normal {
			return b.Normal - a.Normal
		}
		return len(b.Log) - len(a.Log)
	})
	p.s.Log = list[0].Log
	for p.s.Commit > len(p.s.Log) {
		p.s.Commit--
	}
	p.s.Normal, p.changing, p.heard = p.s.View, false, nil
	return p.sayAll(6, len(p.s.Log), p.s.Commit, p.s.Log)
}

func (p *second) takeOver(m pack.Message) []pack.Message {
	if !p.fitting(m.Log, p.s.Commit) {
		return nil
	}
	p.s.View, p.s.Normal, p.s.Log = m.View, m.View, slices.Clone(m.Log)
	p.commit(m.Commit)
	p.changing, p.quiet, p.said, p.heard = false, 0, false, nil
	return one(p.say(p.primary(), 2, len(p.s.Log), 0, 0, nil))
}

func (p *second) commit(n int) {
	for p.s.Commit < n && p.s.Commit < len(p.s.Log) {
		p.s.Commit++
	}
}

func (p *second) ask(to int) []pack.Message { return one(p.say(to, 7, len(p.s.Log), 0, 0, nil)) }

func (p *second) submit(e pack.Entry) ([]pack.Message, api.Errno) {
	if p.role() != 1 {
		return nil, api.ErrRole
	}
	if !e.Right() {
		return nil, api.ErrForm
	}
	for i, o := range p.s.Log {
		if o.Client == e.Client && (o.Request > e.Request || o.Request == e.Request && i < p.s.Commit) {
			return nil, api.ErrTwice
		}
	}
	for _, o := range p.s.Log {
		if o.Client == e.Client && o.Request == e.Request {
			return nil, api.ErrBusy
		}
	}
	if len(p.s.Log) >= 64 {
		return nil, api.ErrFull
	}
	e.View = p.s.View
	p.s.Log = append(slices.Clone(p.s.Log), e)
	return p.sayAll(1, len(p.s.Log), p.s.Commit, []pack.Entry{e}), api.OK
}

func (p *second) tick() []pack.Message {
	if p.role() == 1 {
		return p.sayAll(3, len(p.s.Log), p.s.Commit, nil)
	}
	p.quiet++
	if p.quiet != p.timeout || p.s.View == 1<<40 {
		return nil
	}
	return p.begin(p.s.View + 1)
}

func (p *second) deliver(m pack.Message) ([]pack.Message, api.Errno) {
	if !m.Right() || m.To != p.id || m.From == p.id || m.From < 0 || m.From >= p.n {
		return nil, api.ErrForm
	}
	if m.View < p.s.View {
		return nil, api.OK
	}
	toPrimary, byPrimary := m.View%p.n == p.id, m.View%p.n == m.From
	switch m.Kind {
	case 1, 3:
		if byPrimary {
			return p.spoken(m), api.OK
		}
	case 2:
		if m.View == p.s.View && p.role() == 1 {
			p.acked(m)
		}
	case 4:
		return p.wanted(m), api.OK
	case 5:
		if toPrimary {
			return p.wanted(m), api.OK
		}
	case 6:
		if byPrimary && (m.View > p.s.View || p.changing) {
			return p.takeOver(m), api.OK
		}
	case 7:
		if m.View == p.s.View && !p.changing {
			return one(p.say(m.From, 8, len(p.s.Log), p.s.Commit, 0, p.s.Log)), api.OK
		}
	case 8:
		longer := len(m.Log) > len(p.s.Log) && p.fitting(m.Log, len(p.s.Log))
		if !toPrimary && (m.View > p.s.View || p.changing || longer) {
			return p.takeOver(m), api.OK
		}
	}
	return nil, api.OK
}

// wanted takes the Kinds 4 and 5, which both begin what is above.
func (p *second) wanted(m pack.Message) (out []pack.Message) {
	if m.View > p.s.View {
		out = p.begin(m.View)
	}
	switch {
	case p.changing && m.Kind == 4:
		p.heard = append(p.heard, m)
		out = append(out, p.see()...)
	case p.changing:
		p.heard = append(p.heard, m)
		out = append(out, p.decide()...)
	case m.Kind == 5:
		out = append(out, p.say(m.From, 6, len(p.s.Log), p.s.Commit, 0, p.s.Log))
	}
	return out
}

// spoken takes the Kinds 1 and 3 of the primary of their View.
func (p *second) spoken(m pack.Message) []pack.Message {
	if m.View > p.s.View {
		p.begin(m.View)
		p.heard = nil
	}
	p.quiet = 0
	if p.changing {
		return p.ask(m.From)
	}
	if m.Kind == 1 && len(p.s.Log)+1 == m.Op {
		p.s.Log = append(slices.Clone(p.s.Log), m.Log[0])
	}
	p.commit(m.Commit)
	if len(p.s.Log) < m.Op {
		return p.ask(m.From)
	}
	return one(p.say(m.From, 2, len(p.s.Log), 0, 0, nil))
}

func (p *second) acked(m pack.Message) {
	m.Op = min(m.Op, len(p.s.Log))
	p.heard = append(p.heard, m)
	acks := p.last(2)
	for n := range len(p.s.Log) + 1 {
		count := 1
		for _, a := range acks {
			if a.Op >= n {
				count++
			}
		}
		if count >= p.half() {
			p.commit(n)
		}
	}
}

// pair is a replica, and the second way beside it.
type pair struct {
	r *replica.Replica
	p *second
}

func paired(t *testing.T, c replica.Config, s ledger.State) *pair {
	t.Helper()
	return &pair{made(t, c, s), begun(c, s)}
}

// check holds that both said the same, and are the same.
func (x *pair) check(t *testing.T, what func() string, out, want []pack.Message, e, wantE api.Errno) []pack.Message {
	t.Helper()
	if e != wantE || !slices.EqualFunc(out, want, sameMessage) {
		t.Fatalf("%s: %d\n%s, not %d\n%s", what(), e, shortMessages(out), wantE, shortMessages(want))
	}
	if s := x.r.State(); !same(s, x.p.s) || x.r.Role() != x.p.role() {
		t.Fatalf("%s: %s %d, not %s %d", what(), shortState(s), x.r.Role(), shortState(x.p.s), x.p.role())
	}
	return out
}

func (x *pair) tick(t *testing.T) []pack.Message {
	t.Helper()
	return x.check(t, func() string { return "tick" }, x.r.Tick(), x.p.tick(), api.OK, api.OK)
}

func (x *pair) submit(t *testing.T, e pack.Entry) ([]pack.Message, api.Errno) {
	t.Helper()
	out, err := x.r.Submit(e)
	want, wantErr := x.p.submit(e)
	return x.check(t, func() string { return fmt.Sprintf("submit %+v", e) }, out, want, err, wantErr), err
}

func (x *pair) deliver(t *testing.T, m pack.Message) []pack.Message {
	t.Helper()
	was := x.p.s
	out, e := x.r.Deliver(m)
	want, wantE := x.p.deliver(m)
	return x.check(t, func() string { return shortMessages(one(m)) + " to " + shortState(was) }, out, want, e, wantE)
}

// smallStates are all those of small numbers, and of logs with up to two entries of two kinds.
func smallStates() []ledger.State {
	var list []ledger.State
	for _, view := range [][2]int{{0, 0}, {1, 0}, {1, 1}, {2, 1}, {2, 2}} {
		for _, text := range []string{"", "a", "b", "aa", "ab", "ba", "bb"} {
			for commit := range len(text) + 1 {
				list = append(list, state(view[0], view[1], commit, text))
			}
		}
	}
	return list
}

// smallMessages are messages of all Kinds, of small numbers and logs, to one of three.
func smallMessages(to int) []pack.Message {
	var list []pack.Message
	for view := 1; view <= 3; view++ {
		for _, from := range []int{(to + 1) % 3, (to + 2) % 3} {
			list = append(list, want(view, from, to))
			for n := range 4 {
				list = append(list, ack(view, from, to, n), ask(view, from, to, n))
				for _, commit := range []int{0, 1, 3} {
					list = append(list, add(view, from, to, n, commit, 'a'), beat(view, from, to, n, commit))
				}
			}
			for _, text := range []string{"", "a", "b", "aa", "ab", "ba", "aba", "abb", "bba"} {
				for _, commit := range []int{0, 2} {
					list = append(list, lead(view, from, to, commit, text), tell(view, from, to, commit, text), have(view, from, to, 0, commit, text), have(view, from, to, 2, commit, text))
				}
			}
		}
	}
	return list
}

// All small states and messages: both ways do the same. What a message left as it was takes the next one, too.
func TestSlowSmall(t *testing.T) {
	for id := range 3 {
		messages := smallMessages(id)
		for _, s := range smallStates() {
			x := paired(t, config(3, id), s)
			for _, m := range messages {
				if !same(x.p.s, s) || len(x.p.heard) > 0 {
					x = paired(t, config(3, id), s)
				}
				x.deliver(t, m)
			}
		}
	}
}

// grownLog comes of another one: a beginning of it, and more.
func grownLog(rng *rand.Rand, log []pack.Entry) []pack.Entry {
	list := slices.Clone(log)
	if rng.Intn(3) == 0 {
		list = list[:rng.Intn(len(list)+1)]
	}
	for range rng.Intn(4) {
		list = append(list, entry(rune("abXY"[rng.Intn(4)])))
	}
	return list[:min(len(list), api.MaxLog)]
}

// grownMessage is one that may concern a replica in a state.
func grownMessage(rng *rand.Rand, c replica.Config, s ledger.State) pack.Message {
	near := func(n, most int) int { return min(max(n+rng.Intn(5)-2, 0), most) }
	m := pack.Message{Kind: 1 + rng.Intn(8), View: min(s.View, most), From: rng.Intn(c.N), To: c.ID, Op: near(len(s.Log), 64), Commit: near(s.Commit, 64), Normal: near(s.Normal, most)}
	switch rng.Intn(8) {
	case 0:
		m.View = near(s.View, most)
	case 1:
		m.View = min(s.View+rng.Intn(2*c.N), most)
	case 2:
		m.To = rng.Intn(c.N)
	}
	if rng.Intn(2) == 0 {
		m.From = m.View % c.N
	}
	switch m.Kind {
	case 1:
		m.Log = log(string("abXY"[rng.Intn(4)]))
	case 5, 6, 8:
		m.Log = grownLog(rng, s.Log)
	}
	return m
}

// grownState is any right one, of views not far from its own ends.
func grownState(rng *rand.Rand, c replica.Config) ledger.State {
	s := ledger.State{View: rng.Intn(3 * c.N), Log: grownLog(rng, nil), Active: rng.Intn(65)}
	switch rng.Intn(10) {
	case 0:
		s.View = most - rng.Intn(2*c.N)
	case 1:
		s.Log = log(many(58 + rng.Intn(7)))
	}
	s.Normal = s.View
	if rng.Intn(2) == 0 {
		s.Normal = max(0, s.View-rng.Intn(3))
	}
	s.Commit = rng.Intn(len(s.Log) + 1)
	return s
}

// grownConfig is any right one of a short Timeout.
func grownConfig(rng *rand.Rand) replica.Config {
	n := 3 + 2*rng.Intn(3)
	return replica.Config{N: n, ID: rng.Intn(n), Timeout: 2 + rng.Intn(4)}
}

// Many calls of all kinds, one after another: both ways do the same; and what is looked for does come about.
func TestSlowGrown(t *testing.T) {
	rng := rand.New(rand.NewSource(15))
	said, errors := map[[2]int]int{}, map[api.Errno]int{}
	for range 1500 {
		c := grownConfig(rng)
		x := paired(t, c, grownState(rng, c))
		for range 40 {
			switch rng.Intn(8) {
			case 0:
				for _, m := range x.tick(t) {
					said[[2]int{0, m.Kind}]++
				}
			case 1:
				e := request(rng.Intn(3)+'a'-rng.Intn(2), 4+rng.Intn(5))
				if rng.Intn(10) == 0 {
					e.Client = 0
				}
				_, err := x.submit(t, e)
				errors[err]++
			default:
				m := grownMessage(rng, c, x.p.s)
				for _, out := range x.deliver(t, m) {
					said[[2]int{m.Kind, out.Kind}]++
				}
			}
		}
	}
	for _, k := range [][2]int{{0, 3}, {0, 4}, {1, 2}, {1, 7}, {3, 2}, {3, 7}, {4, 4}, {4, 5}, {5, 4}, {5, 6}, {6, 2}, {7, 8}, {8, 2}} {
		if said[k] < 100 {
			t.Errorf("%d for %d: %d times only", k[1], k[0], said[k])
		}
	}
	for _, e := range []api.Errno{api.OK, api.ErrRole, api.ErrForm, api.ErrTwice, api.ErrBusy, api.ErrFull} {
		if errors[e] < 10 {
			t.Errorf("%d: %d times only", e, errors[e])
		}
	}
}
