package ledger_test

import (
	"fmt"
	"math"
	"reflect"
	"slices"
	"strings"
	"testing"

	"colander/api"
	"colander/frame"
	"colander/ledger"
	"colander/pack"
	"colander/rule"
	"colander/tape"
)

// The chapter's type, field by field, and its functions, as it lists them.
var (
	_ = struct {
		View, Normal, Commit, Active int
		Log                          []pack.Entry
	}(ledger.State{})
	_ func(ledger.State) bool                                   = ledger.State.Right
	_ func(ledger.State, pack.Record) (ledger.State, api.Errno) = ledger.Apply
	_ func(a, b ledger.State) ([]pack.Record, api.Errno)        = ledger.Between
	_ func(*tape.Tape) (*ledger.Ledger, api.Errno)              = ledger.Open
	_ func(*ledger.Ledger) ledger.State                         = (*ledger.Ledger).State
	_ func(l *ledger.Ledger, s ledger.State) api.Errno          = (*ledger.Ledger).Save
)

// entry is a right one of a letter: a great letter has rules and numbers to drop, too.
func entry(letter rune) pack.Entry {
	e := pack.Entry{View: int(letter) % 5, Client: int(letter), Request: 1, Delta: rule.Delta{Default: -1, Closed: -1, Fuel: -1, Stack: -1}}
	if letter < 'a' {
		r := rule.Rule{ID: int(letter), Priority: 5, Action: 9, Scope: 1, Pattern: "a+" + string(letter) + "\xff"}
		e.Delta.Put = []rule.Rule{r, {ID: 500, Scope: 65535}}
		e.Delta.Drop = []int{int(letter), 700, 800}
	}
	return e
}

// log is right entries, one for each letter.
func log(letters string) []pack.Entry {
	var list []pack.Entry
	for _, letter := range letters {
		list = append(list, entry(letter))
	}
	return list
}

// many is so many letters.
func many(n int) string {
	return strings.Repeat("abcXdefgYh", n/10+1)[:n]
}

// state is one with the entries of these letters.
func state(view, normal, commit, active int, letters string) ledger.State {
	return ledger.State{View: view, Normal: normal, Commit: commit, Active: active, Log: log(letters)}
}

// The records of the five Kinds.
func viewed(view, normal int) pack.Record { return pack.Record{Kind: 1, A: view, B: normal} }
func added(letter rune) pack.Record       { return pack.Record{Kind: 2, Log: []pack.Entry{entry(letter)}} }
func cut(n int) pack.Record               { return pack.Record{Kind: 3, A: n} }
func committed(n int) pack.Record         { return pack.Record{Kind: 4, A: n} }
func active(n int) pack.Record            { return pack.Record{Kind: 5, A: n} }

// addedAll is a record for each letter.
func addedAll(letters string) []pack.Record {
	var list []pack.Record
	for _, letter := range letters {
		list = append(list, added(letter))
	}
	return list
}

// same takes nil and empty lists as one.
func same(a, b ledger.State) bool {
	return a.View == b.View && a.Normal == b.Normal && a.Commit == b.Commit && a.Active == b.Active && pack.Same(a.Log, b.Log)
}

// sameRecords takes nil and empty lists as one.
func sameRecords(a, b []pack.Record) bool {
	return slices.EqualFunc(a, b, func(a, b pack.Record) bool {
		return a.Kind == b.Kind && a.A == b.A && a.B == b.B && pack.Same(a.Log, b.Log)
	})
}

// due holds an error against the one that is due.
func due(t *testing.T, e, want api.Errno) {
	t.Helper()
	if e != want {
		t.Fatalf("%d, not %d", e, want)
	}
}

// checkApply holds what Apply tells.
func checkApply(t *testing.T, s ledger.State, r pack.Record, want ledger.State) {
	t.Helper()
	got, e := ledger.Apply(s, r)
	if e != api.OK || !same(got, want) || !got.Right() {
		t.Fatalf("%+v, %+v: %+v %d, not %+v", s, r, got, e, want)
	}
}

// checkNoApply holds that Apply tells an error, and nothing beside it.
func checkNoApply(t *testing.T, s ledger.State, r pack.Record, want api.Errno) {
	t.Helper()
	if got, e := ledger.Apply(s, r); e != want || !reflect.DeepEqual(got, ledger.State{}) {
		t.Fatalf("%+v, %+v: %+v %d, not %d", s, r, got, e, want)
	}
}

// applied is the states to which records lead, the one ahead of them first.
func applied(t *testing.T, s ledger.State, records ...pack.Record) []ledger.State {
	t.Helper()
	list := []ledger.State{s}
	for _, r := range records {
		next, e := ledger.Apply(s, r)
		if e != api.OK {
			t.Fatalf("%+v, %+v: %d", s, r, e)
		}
		list, s = append(list, next), next
	}
	return list
}

// framed is the frame of a body.
func framed(t *testing.T, body []byte) []byte {
	t.Helper()
	b, e := frame.Make(body)
	due(t, e, api.OK)
	return b
}

// inBytes is the frames of records, one behind the other.
func inBytes(t *testing.T, records ...pack.Record) []byte {
	t.Helper()
	var b []byte
	for _, r := range records {
		body, e := pack.EncodeRecord(r)
		due(t, e, api.OK)
		b = append(b, framed(t, body)...)
	}
	return b
}

// part is a number of a state, and what it may be in base.
type part struct {
	name   string
	lo, hi int
	at     func(*ledger.State) *int
}

// base is a right state whose parts all have room on both sides.
func base() ledger.State { return state(500, 300, 2, 3, "abXd") }

var parts = []part{
	{"View", 300, 1 << 40, func(s *ledger.State) *int { return &s.View }},
	{"Normal", 0, 500, func(s *ledger.State) *int { return &s.Normal }},
	{"Commit", 0, 4, func(s *ledger.State) *int { return &s.Commit }},
	{"Active", 0, 64, func(s *ledger.State) *int { return &s.Active }},
}

// with is base but for one part.
func (p part) with(n int) ledger.State {
	s := base()
	*p.at(&s) = n
	return s
}

// within are numbers that the part may be.
func (p part) within() []int { return []int{p.lo, p.lo + 1, p.hi / 2, p.hi - 1, p.hi} }

// without are numbers that the part may not be.
func (p part) without() []int {
	list := []int{math.MinInt, -1 << 48, -1 << 40, -1 << 32, -65, -4, -1, p.lo - 2, p.lo - 1, p.hi + 1, p.hi + 2, 1<<32 + p.lo, 1<<32 + p.hi, 1<<40 + 1, 1<<48 + p.hi, 1<<56 + p.lo, math.MaxInt - 1, math.MaxInt}
	return slices.DeleteFunc(list, func(n int) bool { return n >= p.lo && n <= p.hi })
}

// wrongEntries aren't right, each in another way.
func wrongEntries() []pack.Entry {
	list := make([]pack.Entry, 14)
	for i := range list {
		list[i] = entry('X')
	}
	list[0].View = -1
	list[1].View = 1<<40 + 1
	list[2].Client = 0
	list[3].Client = 1<<40 + 1
	list[4].Request = 0
	list[5].Request = 1<<40 + 1
	list[6].Delta.Default = -2
	list[7].Delta.Stack = 1<<40 + 1
	list[8].Delta.Put[1].Scope = 0
	list[9].Delta.Put[0].Pattern = strings.Repeat("a", 257)
	list[10].Delta.Put = slices.Repeat(list[10].Delta.Put[:1], 17)
	list[11].Delta.Drop[2] = 0
	list[12].Delta.Drop = slices.Repeat([]int{1}, 17)
	list[13] = pack.Entry{}
	return list
}

// wrongStates aren't right, each in another way.
func wrongStates() []ledger.State {
	var list []ledger.State
	for _, p := range parts {
		for _, n := range p.without() {
			list = append(list, p.with(n))
		}
	}
	for _, view := range []int{math.MinInt, -1 << 32, -2, -1, 1<<40 + 1, 1<<40 + 2, 1 << 48, math.MaxInt} {
		list = append(list, state(view, view, 0, 0, ""), state(view, min(view, 0), 0, 0, "ab"))
	}
	for _, n := range []int{0, 1, 2, 63, 64} {
		list = append(list, state(0, 0, n+1, 0, many(n)), state(0, 0, n+2, 0, many(n)), state(0, 0, -1, 0, many(n)), state(0, 1, 0, 0, many(n)), state(0, 0, 0, 65, many(n)))
	}
	for _, n := range []int{65, 66, 100, 128, 256, 257, 320} {
		list = append(list, state(9, 8, 0, 0, many(n)), state(9, 8, 64, 64, many(n)), state(9, 8, n, 64, many(n)))
	}
	for _, e := range wrongEntries() {
		for _, n := range []int{1, 2, 3, 63, 64} {
			for _, place := range []int{0, n / 2, n - 1} {
				s := state(9, 8, min(1, place), 7, many(n))
				s.Log[place] = e
				list = append(list, s)
			}
		}
	}
	return list
}

// rightStates are right, each at another edge.
func rightStates() []ledger.State {
	list := []ledger.State{{}, {Log: []pack.Entry{}}, state(1<<40, 1<<40, 64, 64, many(64))}
	for _, p := range parts {
		for _, n := range p.within() {
			list = append(list, p.with(n))
		}
	}
	for _, view := range []int{0, 1, 255, 256, 1<<40 - 1, 1 << 40} {
		list = append(list, state(view, 0, 0, 0, ""), state(view, view, 0, 64, "a"), state(view, max(view-1, 0), 1, 1, "aa"))
	}
	for _, n := range []int{0, 1, 2, 62, 63, 64} {
		list = append(list, state(0, 0, 0, 64, many(n)), state(9, 9, n/2, 0, many(n)), state(9, 0, n, 0, many(n)))
	}
	// How the entries' views and requests stand to one another, or to the state's view, is not asked, nor that a version is there.
	s := state(0, 0, 3, 64, "aaa")
	s.Log[0].View, s.Log[1].View = 1<<40, 7
	e := state(0, 0, 0, 0, "a")
	e.Log[0].Delta.Put, e.Log[0].Delta.Drop = []rule.Rule{}, []int{}
	return append(list, s, e)
}

// P13.1: each bound of a right state, at it and just past it, how many entries it may have, and that they are right.
func TestRight(t *testing.T) {
	for _, s := range rightStates() {
		if !s.Right() {
			t.Errorf("not right: %+v", s)
		}
	}
	for _, s := range wrongStates() {
		if s.Right() {
			t.Errorf("right: %+v", s)
		}
	}
}

// P13.1: Kind 1, if A is at least View, and B from Normal to A.
func TestApplyView(t *testing.T) {
	for _, view := range []int{0, 1, 5, 6} {
		for normal := range view + 1 {
			s, want := state(view, normal, 1, 7, "aXc"), state(view, normal, 1, 7, "aXc")
			for a := range 10 {
				for b := range 11 {
					if a >= view && b >= normal && b <= a {
						want.View, want.Normal = a, b
						checkApply(t, s, viewed(a, b), want)
					} else {
						checkNoApply(t, s, viewed(a, b), api.ErrState)
					}
				}
			}
		}
	}
}

// P13.1: so up to MaxNumber.
func TestApplyGreatView(t *testing.T) {
	const most = api.MaxNumber
	s := state(most-1, most-2, 0, 0, "")
	checkApply(t, s, viewed(most, most), state(most, most, 0, 0, ""))
	checkApply(t, s, viewed(most, most-2), state(most, most-2, 0, 0, ""))
	checkApply(t, s, viewed(most-1, most-1), state(most-1, most-1, 0, 0, ""))
	checkApply(t, ledger.State{}, viewed(most, 0), state(most, 0, 0, 0, ""))
	checkNoApply(t, s, viewed(most-2, most-2), api.ErrState)
	checkNoApply(t, s, viewed(most-1, most), api.ErrState)
	checkNoApply(t, s, viewed(most, most-3), api.ErrState)
	checkNoApply(t, s, viewed(most, most+1), api.ErrForm)
	checkNoApply(t, s, viewed(most+1, most), api.ErrForm)
	checkNoApply(t, state(most, most, 0, 0, ""), viewed(most-1, most-1), api.ErrState)
}

// some are numbers that a record may have where they say nothing.
var some = []int{0, 1, 64, 65, 1 << 32, 1 << 40}

// P13.1: Kind 2, if there are fewer than MaxLog entries, whatever A and B are; the entry stands behind the others.
func TestApplyEntry(t *testing.T) {
	for n := range 65 {
		for _, letter := range "aXq" {
			s := state(9, 8, n/2, 7, many(n))
			for _, a := range some {
				r := added(letter)
				r.A, r.B = a, some[n%len(some)]
				if n < 64 {
					checkApply(t, s, r, state(9, 8, n/2, 7, many(n)+string(letter)))
				} else {
					checkNoApply(t, s, r, api.ErrState)
				}
			}
		}
	}
	checkApply(t, state(0, 0, 0, 0, "a"), added('a'), state(0, 0, 0, 0, "aa"))
}

// P13.1: Kinds 3 and 4, if A is from Commit to the log's length, whatever B is.
func TestApplyCutAndCommit(t *testing.T) {
	for _, n := range []int{0, 1, 2, 5, 63, 64} {
		for _, commit := range []int{0, 1, n / 2, n - 1, n} {
			if commit < 0 || commit > n {
				continue
			}
			s := state(9, 8, commit, 7, many(n))
			for a := range n + 5 {
				shorter, further := cut(a), committed(a)
				shorter.B, further.B = some[a%len(some)], some[a%len(some)]
				if a >= commit && a <= n {
					checkApply(t, s, shorter, state(9, 8, commit, 7, many(n)[:a]))
					checkApply(t, s, further, state(9, 8, a, 7, many(n)))
				} else {
					checkNoApply(t, s, shorter, api.ErrState)
					checkNoApply(t, s, further, api.ErrState)
				}
			}
			for _, a := range []int{65, 66, 128, 256, 1<<16 + n, 1<<32 + n, 1<<40 - 1, 1 << 40} {
				checkNoApply(t, s, cut(a), api.ErrState)
				checkNoApply(t, s, committed(a), api.ErrState)
			}
		}
	}
}

// P13.1: Kind 5, if A is at most MaxLog, whatever B is, and whatever was active.
func TestApplyActive(t *testing.T) {
	for _, now := range []int{0, 1, 63, 64} {
		s := state(9, 8, 1, now, "aX")
		for a := range 65 {
			r := active(a)
			r.B = some[a%len(some)]
			checkApply(t, s, r, state(9, 8, 1, a, "aX"))
		}
		for _, a := range []int{65, 66, 128, 256, 1 << 16, 1 << 32, 1<<40 - 1, 1 << 40} {
			checkNoApply(t, s, active(a), api.ErrState)
		}
	}
}

// wrongRecords aren't right, each in another way; some couldn't be applied to any state, either.
func wrongRecords() []pack.Record {
	list := []pack.Record{{}, {Kind: -1}, {Kind: 6}, {Kind: 7, A: 1}, {Kind: math.MinInt}, {Kind: math.MaxInt}, {Kind: 1<<32 + 1}, {Kind: 0, Log: log("a")}, {Kind: 6, Log: log("a")}}
	for kind := 1; kind <= 5; kind++ {
		right := pack.Record{Kind: kind}
		if kind == 2 {
			right.Log = log("a")
		}
		for _, n := range []int{math.MinInt, -1 << 32, -2, -1, 1<<40 + 1, 1<<40 + 2, 1 << 48, math.MaxInt} {
			a, b, both := right, right, right
			a.A, b.B, both.A, both.B = n, n, n, n
			list = append(list, a, b, both)
		}
		for _, letters := range []string{"", "a", "ab", "aXc"} {
			r := right
			r.Log = log(letters)
			if len(letters) != len(right.Log) {
				list = append(list, r)
			}
		}
	}
	for _, e := range wrongEntries() {
		list = append(list, pack.Record{Kind: 2, Log: []pack.Entry{e}})
	}
	return list
}

// P13.1: ErrForm, if the record isn't right, also where a record of its Kind couldn't be applied.
func TestApplyWrongRecord(t *testing.T) {
	for _, s := range []ledger.State{{}, base(), state(9, 9, 64, 64, many(64)), state(1<<40, 1<<40, 0, 0, "")} {
		for _, r := range wrongRecords() {
			checkNoApply(t, s, r, api.ErrForm)
		}
	}
}

// P13.1: ErrForm, if the state isn't right, also where the record would make it so, can't be applied, or isn't right, either.
func TestApplyWrongState(t *testing.T) {
	records := []pack.Record{viewed(0, 0), viewed(1<<40, 1<<40), viewed(600, 400), added('a'), cut(0), cut(2), cut(1 << 40), committed(0), committed(2), committed(1 << 40), active(0), active(64), active(65), {}, {Kind: 3, A: -1}}
	for _, s := range wrongStates() {
		for _, r := range records {
			checkNoApply(t, s, r, api.ErrForm)
		}
	}
}

// P13.1: an empty list of a record's or a state's is none.
func TestApplyEmpty(t *testing.T) {
	r := viewed(3, 2)
	r.Log = []pack.Entry{}
	checkApply(t, ledger.State{Log: []pack.Entry{}}, r, state(3, 2, 0, 0, ""))
	checkApply(t, state(0, 0, 0, 0, "a"), cut(0), ledger.State{})
	checkNoApply(t, ledger.State{}, pack.Record{Kind: 2, Log: []pack.Entry{}}, api.ErrForm)
}

// P13.1: what Apply tells can be applied to, again and again.
func TestApplyChain(t *testing.T) {
	list := applied(t, ledger.State{}, added('a'), added('X'), viewed(4, 2), committed(1), added('c'), cut(1), added('d'), added('Y'), committed(3), active(9), viewed(4, 4), active(0))
	want := []ledger.State{
		{}, state(0, 0, 0, 0, "a"), state(0, 0, 0, 0, "aX"), state(4, 2, 0, 0, "aX"), state(4, 2, 1, 0, "aX"), state(4, 2, 1, 0, "aXc"), state(4, 2, 1, 0, "a"),
		state(4, 2, 1, 0, "ad"), state(4, 2, 1, 0, "adY"), state(4, 2, 3, 0, "adY"), state(4, 2, 3, 9, "adY"), state(4, 4, 3, 9, "adY"), state(4, 4, 3, 0, "adY"),
	}
	if !slices.EqualFunc(list, want, same) {
		t.Fatalf("%v", fmt.Sprint(list))
	}
}
