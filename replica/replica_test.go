package replica_test

import (
	"fmt"
	"math"
	"slices"
	"testing"

	"colander/api"
	"colander/ledger"
	"colander/pack"
	"colander/replica"
	"colander/rule"
)

// The chapter's type, field by field, and its functions, as it lists them.
var (
	_                                                                      = struct{ N, ID, Timeout int }(replica.Config{})
	_ func(c replica.Config, s ledger.State) (*replica.Replica, api.Errno) = replica.New
	_ func(r *replica.Replica, e pack.Entry) ([]pack.Message, api.Errno)   = (*replica.Replica).Submit
	_ func(r *replica.Replica) []pack.Message                              = (*replica.Replica).Tick
	_ func(r *replica.Replica, m pack.Message) ([]pack.Message, api.Errno) = (*replica.Replica).Deliver
	_ func(r *replica.Replica) ledger.State                                = (*replica.Replica).State
	_ func(r *replica.Replica) int                                         = (*replica.Replica).Role
)

const most = api.MaxNumber

// The roles.
const (
	follower = 0
	leader   = 1
	changing = 2
)

// entry is the entry that a letter stands for, of a client of its own; capitals have lists.
func entry(letter rune) pack.Entry {
	e := pack.Entry{Client: int(letter), Request: 5, Delta: rule.Delta{Default: -1, Closed: int(letter), Fuel: -1, Stack: -1}}
	if letter < 'a' {
		e.Delta.Put = []rule.Rule{{ID: int(letter), Priority: 1, Action: 2, Scope: 3, Pattern: "p"}, {ID: 1, Scope: 1}}
		e.Delta.Drop = []int{int(letter), 9}
	}
	return e
}

// log is an entry for each letter.
func log(letters string) []pack.Entry {
	var list []pack.Entry
	for _, letter := range letters {
		list = append(list, entry(letter))
	}
	return list
}

// state is one with an active version, which plays no part.
func state(view, normal, commit int, letters string) ledger.State {
	return ledger.State{View: view, Normal: normal, Commit: commit, Active: 3, Log: log(letters)}
}

// config is one of n, with a Timeout of three ticks.
func config(n, id int) replica.Config { return replica.Config{N: n, ID: id, Timeout: 3} }

// made is a replica of a right config and a right state.
func made(t *testing.T, c replica.Config, s ledger.State) *replica.Replica {
	t.Helper()
	r, e := replica.New(c, s)
	if e != api.OK || r == nil {
		t.Fatalf("%+v %+v: %v %d", c, s, r, e)
	}
	return r
}

// The messages of the eight Kinds, with what each of them tells.
func add(view, from, to, op, commit int, letter rune) pack.Message {
	return pack.Message{Kind: 1, View: view, From: from, To: to, Op: op, Commit: commit, Log: []pack.Entry{entry(letter)}}
}
func ack(view, from, to, op int) pack.Message {
	return pack.Message{Kind: 2, View: view, From: from, To: to, Op: op}
}
func beat(view, from, to, op, commit int) pack.Message {
	return pack.Message{Kind: 3, View: view, From: from, To: to, Op: op, Commit: commit}
}
func want(view, from, to int) pack.Message {
	return pack.Message{Kind: 4, View: view, From: from, To: to}
}
func have(view, from, to, normal, commit int, letters string) pack.Message {
	return pack.Message{Kind: 5, View: view, From: from, To: to, Op: length(letters), Commit: commit, Normal: normal, Log: log(letters)}
}
func lead(view, from, to, commit int, letters string) pack.Message {
	return pack.Message{Kind: 6, View: view, From: from, To: to, Op: length(letters), Commit: commit, Log: log(letters)}
}
func ask(view, from, to, op int) pack.Message {
	return pack.Message{Kind: 7, View: view, From: from, To: to, Op: op}
}
func tell(view, from, to, commit int, letters string) pack.Message {
	return pack.Message{Kind: 8, View: view, From: from, To: to, Op: length(letters), Commit: commit, Log: log(letters)}
}

// length is how many entries letters stand for.
func length(letters string) int { return len([]rune(letters)) }

// one is a list of these messages.
func one(list ...pack.Message) []pack.Message { return list }

// each is a message for each of the others of n, by rising number.
func each(n int, m pack.Message) []pack.Message {
	var list []pack.Message
	for m.To = range n {
		if m.To != m.From {
			list = append(list, m)
		}
	}
	return list
}

// same takes nil and empty lists as one.
func same(a, b ledger.State) bool {
	return a.View == b.View && a.Normal == b.Normal && a.Commit == b.Commit && a.Active == b.Active && pack.Same(a.Log, b.Log)
}

// sameMessage takes nil and empty lists as one.
func sameMessage(a, b pack.Message) bool {
	return a.Kind == b.Kind && a.View == b.View && a.From == b.From && a.To == b.To && a.Op == b.Op && a.Commit == b.Commit &&
		a.Normal == b.Normal && pack.Same(a.Log, b.Log)
}

// short is a log in letters.
func short(log []pack.Entry) string {
	text := ""
	for _, e := range log {
		text += fmt.Sprintf("%c", rune(e.Client))
	}
	return text
}

// shortState is a state in a few words.
func shortState(s ledger.State) string {
	return fmt.Sprintf("{view %d normal %d commit %d active %d %q}", s.View, s.Normal, s.Commit, s.Active, short(s.Log))
}

// shortMessages are messages in a few words.
func shortMessages(list []pack.Message) string {
	text := ""
	for _, m := range list {
		text += fmt.Sprintf("{%d view %d %d->%d op %d commit %d normal %d %q}", m.Kind, m.View, m.From, m.To, m.Op, m.Commit, m.Normal, short(m.Log))
	}
	return text
}

// checkOut holds what was said.
func checkOut(t *testing.T, what string, got, want []pack.Message) {
	t.Helper()
	if !slices.EqualFunc(got, want, sameMessage) {
		t.Fatalf("%s: said\n%s, not\n%s", what, shortMessages(got), shortMessages(want))
	}
}

// checkState holds a replica's state and its role.
func checkState(t *testing.T, what string, r *replica.Replica, want ledger.State, role int) {
	t.Helper()
	if got := r.State(); !same(got, want) || r.Role() != role {
		t.Fatalf("%s: %s role %d, not %s role %d", what, shortState(got), r.Role(), shortState(want), role)
	}
}

// checkDeliver holds what is said to a right message.
func checkDeliver(t *testing.T, r *replica.Replica, m pack.Message, want ...pack.Message) {
	t.Helper()
	out, e := r.Deliver(m)
	what := "to " + shortMessages(one(m))
	if e != api.OK {
		t.Fatalf("%s: %d", what, e)
	}
	checkOut(t, what, out, want)
}

// step is a message, what is said to it, and what is then.
type step struct {
	in    pack.Message
	out   []pack.Message
	after ledger.State
	role  int
}

// checkSteps hands a replica one message after another.
func checkSteps(t *testing.T, r *replica.Replica, steps ...step) {
	t.Helper()
	for i, s := range steps {
		checkDeliver(t, r, s.in, s.out...)
		checkState(t, fmt.Sprintf("step %d, %s", i, shortMessages(one(s.in))), r, s.after, s.role)
	}
}

// checkNothing holds that a message does nothing that is to be seen at once.
func checkNothing(t *testing.T, r *replica.Replica, m pack.Message) {
	t.Helper()
	was, role := r.State(), r.Role()
	checkSteps(t, r, step{in: m, after: was, role: role})
}

// checkSubmit holds what is said to a right entry, for each of the others.
func checkSubmit(t *testing.T, r *replica.Replica, e pack.Entry, want ...pack.Message) {
	t.Helper()
	out, err := r.Submit(e)
	if err != api.OK {
		t.Fatalf("%+v: %d", e, err)
	}
	checkOut(t, "submit", out, want)
}

// checkRefused holds that an entry is refused, and that nothing comes of it.
func checkRefused(t *testing.T, r *replica.Replica, e pack.Entry, want api.Errno) {
	t.Helper()
	was, role := r.State(), r.Role()
	out, err := r.Submit(e)
	if err != want || len(out) != 0 {
		t.Fatalf("%+v: %d %s, not %d", e, err, shortMessages(out), want)
	}
	checkState(t, "refused", r, was, role)
}

// checkTicks holds that so many ticks go by without a word.
func checkTicks(t *testing.T, r *replica.Replica, n int) {
	t.Helper()
	for range n {
		was, role := r.State(), r.Role()
		checkOut(t, "tick", r.Tick(), nil)
		checkState(t, "tick", r, was, role)
	}
}

// checkBegins holds that the next tick begins the next view.
func checkBegins(t *testing.T, r *replica.Replica, n, id int) {
	t.Helper()
	next := r.State()
	next.View++
	checkOut(t, "tick", r.Tick(), each(n, want(next.View, id, 0)))
	checkState(t, "tick", r, next, changing)
}

// checkIdle holds that messages do nothing, normal and changing, and that no tick is undone by them: those that are told for each size, receiver, View and sender.
func checkIdle(t *testing.T, list func(n, id, view, from int) []pack.Message) {
	t.Helper()
	for _, n := range []int{3, 5, 7} {
		for id := range n {
			for _, s := range []ledger.State{state(n, n, 0, "ab"), state(n, n-1, 0, "ab")} {
				r := made(t, config(n, id), s)
				if r.Role() == leader {
					continue // it is never quiet
				}
				checkTicks(t, r, 2)
				for view := n; view < 3*n; view++ {
					for from := range n {
						for _, m := range list(n, id, view, from) {
							checkNothing(t, r, m)
						}
					}
				}
				checkBegins(t, r, n, id)
			}
		}
	}
}

// The chapter's example.
func TestExample(t *testing.T) {
	r := made(t, config(3, 0), state(0, 0, 0, ""))
	r1, r2 := made(t, config(3, 1), state(0, 0, 0, "")), made(t, config(3, 2), state(0, 0, 0, ""))
	checkSubmit(t, r, entry('a'), add(0, 0, 1, 1, 0, 'a'), add(0, 0, 2, 1, 0, 'a'))
	checkDeliver(t, r1, add(0, 0, 1, 1, 0, 'a'), ack(0, 1, 0, 1))
	checkDeliver(t, r2, add(0, 0, 2, 1, 0, 'a'), ack(0, 2, 0, 1))
	checkState(t, "ahead of an answer", r, state(0, 0, 0, "a"), leader)
	checkDeliver(t, r, ack(0, 2, 0, 1))
	checkState(t, "at the first answer", r, state(0, 0, 1, "a"), leader)
}

// rightConfigs are right ones of all sizes, at both ends of each number.
func rightConfigs() []replica.Config {
	var list []replica.Config
	for _, n := range []int{3, 5, 7} {
		for id := range n {
			for _, timeout := range []int{2, 3, 99, 100} {
				list = append(list, replica.Config{N: n, ID: id, Timeout: timeout})
			}
		}
	}
	return list
}

// wrongConfigs have one number that may not be.
func wrongConfigs() []replica.Config {
	list := []replica.Config{{}}
	for _, n := range []int{math.MinInt, -7, -5, -3, -1, 0, 1, 2, 4, 6, 8, 9, 11, math.MaxInt} {
		list = append(list, replica.Config{N: n, ID: 0, Timeout: 10})
	}
	for _, n := range []int{3, 5, 7} {
		for _, id := range []int{math.MinInt, -1, n, n + 1, math.MaxInt} {
			list = append(list, replica.Config{N: n, ID: id, Timeout: 10})
		}
		for _, timeout := range []int{math.MinInt, -2, 0, 1, 101, math.MaxInt} {
			list = append(list, replica.Config{N: n, ID: 1, Timeout: timeout})
		}
	}
	return list
}

// many is a log of so many letters, each of a client of its own.
func many(n int) string {
	text := ""
	for i := range n {
		text += string(rune('a' + i))
	}
	return text
}

// rightStates are right ones, with each number at its ends.
func rightStates() []ledger.State {
	list := []ledger.State{{}, {Active: 64}, {View: most}, {View: most, Normal: most}, {View: most, Normal: most - 1}}
	for _, commit := range []int{0, 1, 63, 64} {
		list = append(list, state(7, 2, commit, many(64)))
	}
	return append(list, state(5, 5, 0, "X"), state(1, 1, 2, "XYa"), state(2, 0, 0, ""))
}

// wrongEntries are entries with one part that may not be.
func wrongEntries() []pack.Entry {
	var list []pack.Entry
	for _, change := range []func(e *pack.Entry){
		func(e *pack.Entry) { e.View = -1 },
		func(e *pack.Entry) { e.View = most + 1 },
		func(e *pack.Entry) { e.Client = 0 },
		func(e *pack.Entry) { e.Client = most + 1 },
		func(e *pack.Entry) { e.Request = 0 },
		func(e *pack.Entry) { e.Request = most + 1 },
		func(e *pack.Entry) { e.Delta.Default = -2 },
		func(e *pack.Entry) { e.Delta.Stack = most + 1 },
		func(e *pack.Entry) { e.Delta.Put = []rule.Rule{{ID: 0, Scope: 1}} },
		func(e *pack.Entry) { e.Delta.Put = slices.Repeat([]rule.Rule{{ID: 1, Scope: 1}}, 17) },
		func(e *pack.Entry) { e.Delta.Drop = []int{0} },
		func(e *pack.Entry) { e.Delta.Drop = slices.Repeat([]int{1}, 17) },
	} {
		e := entry('z')
		change(&e)
		list = append(list, e)
	}
	return list
}

// wrongStates have one part that may not be.
func wrongStates() []ledger.State {
	list := []ledger.State{
		{View: -1}, {View: most + 1}, {View: math.MinInt}, {View: math.MaxInt}, {View: -1, Normal: -1},
		{Normal: -1}, {Normal: 1}, {View: 5, Normal: 6}, {View: 5, Normal: math.MaxInt}, {View: 5, Normal: math.MinInt},
		{Commit: -1}, {Commit: 1}, {Commit: math.MinInt}, {Commit: math.MaxInt}, {Active: -1}, {Active: 65}, {Active: math.MaxInt},
		state(0, 0, 4, "abc"), state(0, 0, 0, many(65)), state(0, 0, 65, many(65)),
	}
	for _, e := range wrongEntries() {
		for place := range 3 {
			s := state(1, 1, 1, "abc")
			s.Log[place] = e
			list = append(list, s)
		}
	}
	return list
}

// P15.1: a replica of what is right, with the state that it was given.
func TestNew(t *testing.T) {
	for _, c := range rightConfigs() {
		for _, s := range rightStates() {
			if got := made(t, c, s).State(); !same(got, s) {
				t.Fatalf("%+v: %s, not %s", c, shortState(got), shortState(s))
			}
		}
	}
}

// checkNoNew holds that no replica is made.
func checkNoNew(t *testing.T, c replica.Config, s ledger.State) {
	t.Helper()
	if r, e := replica.New(c, s); e != api.ErrForm || r != nil {
		t.Fatalf("%+v %s: %v %d", c, shortState(s), r, e)
	}
}

// P15.1: ErrForm of a config or a state that isn't right, by each part of it.
func TestNewWrong(t *testing.T) {
	for _, c := range wrongConfigs() {
		checkNoNew(t, c, ledger.State{})
		checkNoNew(t, c, state(4, 4, 1, "abc"))
		checkNoNew(t, c, ledger.State{View: -1})
	}
	for _, s := range wrongStates() {
		for _, c := range rightConfigs() {
			checkNoNew(t, c, s)
		}
	}
}

// P15.1: the role at the start: normal, if Normal is View, at the primary of the view and elsewhere; else changing.
func TestStart(t *testing.T) {
	for _, c := range rightConfigs() {
		for _, view := range []int{0, 1, 2, 3, 4, 5, 6, 7, 8, 9, 10, 11, 13, 14, 15, 20, 21, most - 1, most} {
			role := follower
			if view%c.N == c.ID {
				role = leader
			}
			checkState(t, "normal", made(t, c, state(view, view, 1, "ab")), state(view, view, 1, "ab"), role)
			for _, normal := range []int{0, 1, view / 2, view - 1} {
				if 0 <= normal && normal < view {
					checkState(t, "changing", made(t, c, state(view, normal, 2, "ab")), state(view, normal, 2, "ab"), changing)
				}
			}
		}
	}
}

// P15.1: at the start nothing is known of others: no acks, no starts (its own neither), no changes, nothing said, no tick gone by.
func TestStartsWithNothing(t *testing.T) {
	r := made(t, config(5, 0), state(0, 0, 0, "ab"))
	checkSteps(t, r, step{ack(0, 1, 0, 2), nil, state(0, 0, 0, "ab"), leader}, step{ack(0, 4, 0, 2), nil, state(0, 0, 2, "ab"), leader})
	r = made(t, config(3, 0), state(1, 0, 0, "ab"))
	checkNothing(t, r, want(1, 2, 0))
	checkDeliver(t, r, want(1, 1, 0), have(1, 0, 1, 0, 0, "ab"))
	r = made(t, config(5, 1), state(1, 0, 0, "ab"))
	checkNothing(t, r, have(1, 0, 1, 0, 0, "a"))
	checkSteps(t, r, step{have(1, 2, 1, 0, 0, "a"), each(5, lead(1, 1, 0, 0, "ab")), state(1, 1, 0, "ab"), leader})
	for _, s := range []ledger.State{state(1, 0, 0, "ab"), state(1, 1, 0, "ab")} {
		r = made(t, config(3, 0), s)
		checkTicks(t, r, 2)
		checkBegins(t, r, 3, 0)
	}
}
