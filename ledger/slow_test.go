package ledger_test

import (
	"encoding/binary"
	"hash/adler32"
	"math/rand"
	"slices"
	"testing"

	"colander/api"
	"colander/ledger"
	"colander/pack"
	"colander/tape"
)

// What follows is the chapter a second time: all that a record may lead to is looked for, frames are read and written by the library, and a ledger is no more than its tape.

// slowRight counts what is wrong.
func slowRight(s ledger.State) bool {
	faults := 0
	count := func(wrong bool) {
		if wrong {
			faults++
		}
	}
	count(s.View < 0 || s.View > 1<<40)
	count(s.Normal < 0 || s.Normal > 1<<40 || s.Normal > s.View)
	count(len(s.Log) > 64)
	count(s.Commit < 0 || s.Commit > len(s.Log))
	count(s.Active < 0 || s.Active > 64)
	for _, e := range s.Log {
		count(!(pack.Record{Kind: 2, Log: []pack.Entry{e}}).Right())
	}
	return faults == 0
}

// slowApply makes the changed state first, and then looks whether it may be: numbers that rise, a log that keeps what is committed.
func slowApply(s ledger.State, r pack.Record) (ledger.State, api.Errno) {
	if !slowRight(s) || !r.Right() {
		return ledger.State{}, api.ErrForm
	}
	next := s
	switch r.Kind {
	case 1:
		next.View, next.Normal = r.A, r.B
	case 2:
		next.Log = append(slices.Clone(s.Log), r.Log...)
	case 3:
		if r.A > len(s.Log) {
			return ledger.State{}, api.ErrState
		}
		next.Log = slices.Clone(s.Log)[:r.A]
	case 4:
		next.Commit = r.A
	case 5:
		next.Active = r.A
	}
	if !slowRight(next) || next.View < s.View || next.Normal < s.Normal || next.Commit < s.Commit {
		return ledger.State{}, api.ErrState
	}
	return next, api.OK
}

// slowBetween goes from the one state to the other one, step by step: the first thing that is to be done is done, till nothing is left.
func slowBetween(a, b ledger.State) ([]pack.Record, api.Errno) {
	if !slowRight(a) || !slowRight(b) {
		return nil, api.ErrForm
	}
	var list []pack.Record
	for {
		r := pack.Record{}
		n := len(a.Log)
		switch {
		case n > len(b.Log) || !pack.Same(a.Log, b.Log[:n]):
			r = cut(0)
			for r.A < len(b.Log) && pack.Same(a.Log[:r.A+1], b.Log[:r.A+1]) {
				r.A++
			}
		case n < len(b.Log):
			r = pack.Record{Kind: 2, Log: b.Log[n : n+1]}
		case a.View != b.View || a.Normal != b.Normal:
			r = viewed(b.View, b.Normal)
		case a.Commit != b.Commit:
			r = committed(b.Commit)
		case a.Active != b.Active:
			r = active(b.Active)
		default:
			return list, api.OK
		}
		next, e := slowApply(a, r)
		if e != api.OK {
			return nil, e
		}
		list, a = append(list, r), next
	}
}

// slowFrame is a record's frame.
func slowFrame(r pack.Record) []byte {
	body, _ := pack.EncodeRecord(r)
	b := binary.BigEndian.AppendUint32([]byte("CF"), uint32(len(body)))
	return append(binary.BigEndian.AppendUint32(b, adler32.Checksum(body)), body...)
}

// slowRead is the state to which bytes lead, and how many of them do.
func slowRead(b []byte) (s ledger.State, used int) {
	for {
		rest := b[used:]
		if len(rest) < 10 || string(rest[:2]) != "CF" {
			return s, used
		}
		size := int(binary.BigEndian.Uint32(rest[2:])) + 10
		if size > len(rest) {
			return s, used
		}
		// What is written again as it was is the record's frame; so the sum needs no look of its own.
		r, e := pack.DecodeRecord(rest[10:size])
		if e != api.OK || string(slowFrame(r)) != string(rest[:size]) {
			return s, used
		}
		next, e := slowApply(s, r)
		if e != api.OK {
			return s, used
		}
		s, used = next, used+size
	}
}

// slow is a ledger that is no more than a tape, which it reads each time.
type slow struct {
	tape   *tape.Tape
	last   ledger.State
	broken bool
}

// open opens it; what can't be trimmed off is the tape's error.
func (s *slow) open() api.Errno {
	last, used := slowRead(s.tape.Bytes())
	if used != len(s.tape.Bytes()) {
		if e := s.tape.Trim(used); e != api.OK {
			return e
		}
	}
	s.last, s.broken = last, false
	return api.OK
}

func (s *slow) save(next ledger.State) api.Errno {
	list, e := slowBetween(s.last, next)
	var b []byte
	for _, r := range list {
		b = append(b, slowFrame(r)...)
	}
	if s.broken {
		e = api.ErrDown
	}
	if e != api.OK || len(b) == 0 {
		return e
	}
	for _, call := range []func() api.Errno{func() api.Errno { return s.tape.Append(b) }, s.tape.Sync} {
		if e := call(); e != api.OK {
			s.broken = true
			return e
		}
	}
	s.last, _ = slowRead(s.tape.Bytes())
	return api.OK
}

// smallStates are all those of small numbers and of logs with up to three entries of two kinds.
func smallStates() []ledger.State {
	texts := []string{""}
	for at := 0; at < len(texts) && len(texts[at]) < 3; at++ {
		texts = append(texts, texts[at]+"a", texts[at]+"X")
	}
	var list []ledger.State
	for _, view := range [][2]int{{0, 0}, {1, 0}, {1, 1}} {
		for _, text := range texts {
			for commit := range len(text) + 1 {
				for used := range 2 {
					list = append(list, state(view[0], view[1], commit, used, text))
				}
			}
		}
	}
	return list
}

// checkCount tells of errors that came too seldom.
func checkCount(t *testing.T, count map[api.Errno]int, least int, all ...api.Errno) {
	t.Helper()
	for _, e := range all {
		if count[e] < least {
			t.Errorf("%d: %d times only", e, count[e])
		}
	}
}

// checkApplySlow holds Apply against the second way.
func checkApplySlow(t *testing.T, s ledger.State, r pack.Record) api.Errno {
	t.Helper()
	want, e := slowApply(s, r)
	if e == api.OK {
		checkApply(t, s, r, want)
	} else {
		checkNoApply(t, s, r, e)
	}
	return e
}

// checkBetweenSlow holds Between against the second way.
func checkBetweenSlow(t *testing.T, a, b ledger.State) api.Errno {
	t.Helper()
	want, e := slowBetween(a, b)
	if e == api.OK {
		checkBetween(t, a, b, want...)
	} else {
		checkNoBetween(t, a, b, e)
	}
	return e
}

// P13.1: all small records, applied to all small states.
func TestSmallApplySlow(t *testing.T) {
	count := map[api.Errno]int{}
	for _, s := range smallStates() {
		for kind := range 7 {
			for a := -1; a < 5; a++ {
				for b := -1; b < 4; b++ {
					for _, text := range []string{"", "a", "X"} {
						count[checkApplySlow(t, s, pack.Record{Kind: kind, A: a, B: b, Log: log(text)})]++
					}
				}
			}
		}
	}
	checkCount(t, count, 1000, api.OK, api.ErrForm, api.ErrState)
}

// P13.2: all pairs of small states.
func TestSmallBetweenSlow(t *testing.T) {
	count := map[api.Errno]int{}
	list := smallStates()
	for _, a := range list {
		for _, b := range list {
			count[checkBetweenSlow(t, a, b)]++
		}
	}
	checkCount(t, count, 1000, api.OK, api.ErrState)
}

// edgy is a number from lo to hi, mostly at an end, and seldom out of it.
func edgy(r *rand.Rand, lo, hi int) int {
	switch r.Intn(200) {
	case 0:
		return lo - 1
	case 1:
		return hi + 1
	}
	return []int{lo, hi, lo + r.Intn(hi-lo+1), lo + r.Intn(min(hi-lo, 9)+1)}[r.Intn(4)]
}

// grownText is letters for a log, of any length, seldom too many.
func grownText(r *rand.Rand) string {
	b := make([]byte, []int{0, r.Intn(4), r.Intn(9), edgy(r, 0, 64)}[r.Intn(4)]&127)
	for i := range b {
		b[i] = "aaabXXY"[r.Intn(7)]
	}
	return string(b)
}

// grownState is one from everywhere.
func grownState(r *rand.Rand) ledger.State {
	s := ledger.State{View: edgy(r, 0, 1<<40), Active: edgy(r, 0, 64), Log: log(grownText(r))}
	s.Normal, s.Commit = edgy(r, 0, max(s.View, 0)), edgy(r, 0, len(s.Log))
	if len(s.Log) > 0 && r.Intn(60) == 0 {
		s.Log[r.Intn(len(s.Log))] = wrongEntries()[r.Intn(14)]
	}
	return s
}

// grownNext is a state that mostly can come of another one.
func grownNext(r *rand.Rand, s ledger.State) ledger.State {
	next := s
	if r.Intn(3) == 0 {
		next.View = s.View + r.Intn(3)
		next.Normal = edgy(r, s.Normal, next.View)
	}
	if r.Intn(3) > 0 {
		begin := edgy(r, s.Commit, len(s.Log))
		more := log(grownText(r))
		next.Log = append(slices.Clone(s.Log[:max(min(begin, len(s.Log)), 0)]), more[:min(len(more), r.Intn(4))]...)
	}
	if r.Intn(2) == 0 {
		next.Commit = edgy(r, min(s.Commit, len(next.Log)), len(next.Log))
	}
	if r.Intn(4) == 0 {
		next.Active = edgy(r, 0, 64)
	}
	return next
}

// P13.1, P13.2: grown states, and those that come of them.
func TestGrownSlow(t *testing.T) {
	r := rand.New(rand.NewSource(1))
	right, apply, between := map[bool]int{}, map[api.Errno]int{}, map[api.Errno]int{}
	for range 5000 {
		s := grownState(r)
		if s.Right() != slowRight(s) {
			t.Fatalf("%+v: %v", s, s.Right())
		}
		right[s.Right()]++
		one := pack.Record{Kind: edgy(r, 1, 5), A: []int{edgy(r, 0, 64), edgy(r, 0, 1<<40), s.View, len(s.Log), s.Commit}[r.Intn(5)]}
		one.B = []int{s.Normal, one.A, edgy(r, 0, 1<<40)}[r.Intn(3)]
		if one.Kind == 2 {
			one.Log = log("X")
		}
		apply[checkApplySlow(t, s, one)]++
		between[checkBetweenSlow(t, s, grownState(r))]++
		for range 5 {
			if !s.Right() {
				break
			}
			next := grownNext(r, s)
			between[checkBetweenSlow(t, s, next)]++
			s = next
		}
	}
	if right[true] < 1000 || right[false] < 100 {
		t.Error(right)
	}
	checkCount(t, apply, 100, api.OK, api.ErrForm, api.ErrState)
	checkCount(t, between, 100, api.OK, api.ErrForm, api.ErrState)
}

// pair is a ledger, and the second way, on tapes that have the same done to them.
type pair struct {
	tape   *tape.Tape
	ledger *ledger.Ledger
	slow   slow
}

// step does one thing with both, and tells the error.
func (x *pair) step(t *testing.T, r *rand.Rand) api.Errno {
	t.Helper()
	switch r.Intn(20) {
	case 0, 1, 2:
		n := r.Intn(8) - 1
		x.tape.Arm(n)
		x.slow.tape.Arm(n)
		return api.OK
	case 3:
		junk := [][]byte{{'C'}, []byte("CF"), slowFrame(viewed(0, 1)), slowFrame(active(3)), slowFrame(cut(1))[:30]}[r.Intn(5)]
		due(t, x.tape.Append(junk), x.slow.tape.Append(junk))
		return x.open(t)
	case 4, 5:
		keep, turn := r.Intn(200)-20, make([]byte, r.Intn(3)*r.Intn(60))
		r.Read(turn)
		x.tape.Crash(keep, turn)
		x.slow.tape.Crash(keep, turn)
		return x.open(t)
	case 6:
		return x.save(t, x.slow.last)
	case 7:
		return x.save(t, grownState(r))
	}
	return x.save(t, grownNext(r, x.slow.last))
}

// open opens both anew; where the tape has an error the one that was open is gone on with.
func (x *pair) open(t *testing.T) api.Errno {
	t.Helper()
	l, e := ledger.Open(x.tape)
	if want := x.slow.open(); e != want || (l == nil) != (e != api.OK) {
		t.Fatalf("%v %d, not %d", l, e, want)
	}
	if e == api.OK {
		x.ledger = l
		return e
	}
	// Both are down, and of a ledger whose tape another one was to be opened on nothing is asked: the power comes back.
	x.tape.Crash(1<<20, nil)
	x.slow.tape.Crash(1<<20, nil)
	x.open(t)
	return e
}

func (x *pair) save(t *testing.T, next ledger.State) api.Errno {
	t.Helper()
	e := x.ledger.Save(next)
	due(t, e, x.slow.save(next))
	return e
}

// P13.3, P13.4, P1: long lists of saves, right and wrong, of crashes and of other bytes on the tape.
func TestLedgerSlow(t *testing.T) {
	r := rand.New(rand.NewSource(3))
	count := map[api.Errno]int{}
	for n := range 300 {
		room := []int{1 << 16, 2000, 300}[n%3]
		x := &pair{tape: tape.New(room), slow: slow{tape: tape.New(room)}}
		x.open(t)
		for range 60 {
			count[x.step(t, r)]++
			checkState(t, x.ledger, x.slow.last)
			if got, want := looked(x.tape), looked(x.slow.tape); got != want {
				t.Fatalf("%+v, not %+v", got, want)
			}
		}
	}
	checkCount(t, count, 100, api.OK, api.ErrDown, api.ErrSpace, api.ErrForm, api.ErrState)
}
