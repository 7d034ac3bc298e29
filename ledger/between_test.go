package ledger_test

import (
	"math"
	"slices"
	"strings"
	"testing"

	"colander/api"
	"colander/ledger"
	"colander/pack"
	"colander/rule"
)

// checkBetween holds what Between tells, and that it leads from the one state to the other one.
func checkBetween(t *testing.T, a, b ledger.State, want ...pack.Record) {
	t.Helper()
	got, e := ledger.Between(a, b)
	if e != api.OK || !sameRecords(got, want) {
		t.Fatalf("%+v, %+v: %+v %d, not %+v", a, b, got, e, want)
	}
	way := applied(t, a, got...)
	if end := way[len(way)-1]; !same(end, b) {
		t.Fatalf("%+v, %+v: leads to %+v", a, b, end)
	}
}

// checkNoBetween holds that Between tells an error, and nothing beside it.
func checkNoBetween(t *testing.T, a, b ledger.State, want api.Errno) {
	t.Helper()
	if got, e := ledger.Between(a, b); e != want || len(got) != 0 {
		t.Fatalf("%+v, %+v: %+v %d, not %d", a, b, got, e, want)
	}
}

// P13.2: from a state to the same one there are no records.
func TestBetweenSame(t *testing.T) {
	list, again := rightStates(), rightStates()
	for i := range list {
		checkBetween(t, list[i], again[i])
	}
	checkBetween(t, ledger.State{}, ledger.State{Log: []pack.Entry{}})
	checkBetween(t, ledger.State{Log: []pack.Entry{}}, ledger.State{})
	a, b := state(0, 0, 0, 0, "a"), state(0, 0, 0, 0, "a")
	a.Log[0].Delta.Put, a.Log[0].Delta.Drop = []rule.Rule{}, []int{}
	checkBetween(t, a, b)
	checkBetween(t, b, a)
}

// P13.2: states that part in one number: View, Normal or both are one record.
func TestBetweenNumbers(t *testing.T) {
	s := state(5, 3, 1, 7, "aXc")
	checkBetween(t, s, state(6, 3, 1, 7, "aXc"), viewed(6, 3))
	checkBetween(t, s, state(1<<40, 3, 1, 7, "aXc"), viewed(1<<40, 3))
	checkBetween(t, s, state(5, 4, 1, 7, "aXc"), viewed(5, 4))
	checkBetween(t, s, state(5, 5, 1, 7, "aXc"), viewed(5, 5))
	checkBetween(t, s, state(6, 4, 1, 7, "aXc"), viewed(6, 4))
	checkBetween(t, s, state(6, 6, 1, 7, "aXc"), viewed(6, 6))
	checkBetween(t, s, state(5, 3, 2, 7, "aXc"), committed(2))
	checkBetween(t, s, state(5, 3, 3, 7, "aXc"), committed(3))
	checkBetween(t, s, state(5, 3, 1, 8, "aXc"), active(8))
	checkBetween(t, s, state(5, 3, 1, 64, "aXc"), active(64))
	checkBetween(t, s, state(5, 3, 1, 6, "aXc"), active(6))
	checkBetween(t, s, state(5, 3, 1, 0, "aXc"), active(0))
}

// P13.2: states that part in several: the log's records, the shorter log first, then the Kinds 1, 4 and 5.
func TestBetweenOrder(t *testing.T) {
	s := state(5, 3, 1, 7, "aXc")
	checkBetween(t, s, state(6, 4, 1, 8, "aXc"), viewed(6, 4), active(8))
	checkBetween(t, s, state(6, 3, 3, 7, "aXc"), viewed(6, 3), committed(3))
	checkBetween(t, s, state(5, 3, 2, 0, "aXc"), committed(2), active(0))
	checkBetween(t, s, state(6, 6, 2, 0, "aXc"), viewed(6, 6), committed(2), active(0))
	checkBetween(t, s, state(5, 3, 1, 7, "aXcd"), added('d'))
	checkBetween(t, s, state(5, 3, 1, 7, "aXcdY"), added('d'), added('Y'))
	checkBetween(t, s, state(5, 3, 1, 7, "aX"), cut(2))
	checkBetween(t, s, state(5, 3, 1, 7, "a"), cut(1))
	checkBetween(t, s, state(5, 3, 1, 7, "aY"), cut(1), added('Y'))
	checkBetween(t, s, state(5, 3, 1, 9, "a"), cut(1), active(9))
	checkBetween(t, s, state(5, 3, 5, 7, "aXcde"), added('d'), added('e'), committed(5))
	checkBetween(t, s, state(9, 9, 4, 2, "aYcX"), cut(1), added('Y'), added('c'), added('X'), viewed(9, 9), committed(4), active(2))
	checkBetween(t, s, state(9, 3, 4, 2, "aXdX"), cut(2), added('d'), added('X'), viewed(9, 3), committed(4), active(2))
	checkBetween(t, s, state(9, 8, 2, 1, "aX"), cut(2), viewed(9, 8), committed(2), active(1))
	checkBetween(t, ledger.State{}, state(1, 0, 0, 0, ""), viewed(1, 0))
	checkBetween(t, ledger.State{}, state(4, 2, 2, 1, "Xa"), added('X'), added('a'), viewed(4, 2), committed(2), active(1))
}

// begin is how many letters of two texts are the same, from the first one on.
func begin(a, b string) int {
	n := 0
	for n < len(a) && strings.HasPrefix(b, a[:n+1]) {
		n++
	}
	return n
}

// P13.2: logs that part at the beginning, in the middle and at the end, or of which the one is a beginning of the other one.
func TestBetweenLogs(t *testing.T) {
	texts := []string{""}
	for at := 0; at < len(texts) && len(texts[at]) < 4; at++ {
		texts = append(texts, texts[at]+"a", texts[at]+"b", texts[at]+"X")
	}
	for _, a := range texts {
		for _, b := range texts {
			n := begin(a, b)
			want := addedAll(b[n:])
			if n < len(a) {
				want = append([]pack.Record{cut(n)}, want...)
			}
			checkBetween(t, state(3, 2, 0, 1, a), state(3, 2, 0, 1, b), want...)
			if n > 0 {
				checkBetween(t, state(3, 2, n, 1, a), state(3, 2, n, 1, b), want...)
			}
			if n < len(a) {
				checkNoBetween(t, state(3, 2, n+1, 1, a), state(3, 2, 0, 1, b), api.ErrState)
			}
		}
	}
}

// P13.2: so with logs of up to MaxLog entries, that part at each place.
func TestBetweenLongLogs(t *testing.T) {
	all := many(64)
	for n := range 64 {
		other := all[:n] + "Z" + all[n+1:]
		want := append([]pack.Record{cut(n)}, addedAll(other[n:])...)
		checkBetween(t, state(3, 2, n, 1, all), state(3, 2, n, 1, other), want...)
		checkBetween(t, state(3, 2, 0, 1, all), state(3, 2, 64, 1, other), append(want, committed(64))...)
		checkBetween(t, state(3, 2, 0, 1, all), state(3, 2, 0, 1, all[:n]), cut(n))
		checkBetween(t, state(3, 2, 0, 1, all[:n]), state(3, 2, 0, 1, all), addedAll(all[n:])...)
		checkNoBetween(t, state(3, 2, n+1, 1, all), state(3, 2, n+1, 1, other), api.ErrState)
	}
}

// P13.2: entries that part in one thing alone are others.
func TestBetweenEntries(t *testing.T) {
	changes := []func(e *pack.Entry){
		func(e *pack.Entry) { e.View++ }, func(e *pack.Entry) { e.Client++ }, func(e *pack.Entry) { e.Request++ },
		func(e *pack.Entry) { e.Delta.Default++ }, func(e *pack.Entry) { e.Delta.Closed++ }, func(e *pack.Entry) { e.Delta.Fuel++ }, func(e *pack.Entry) { e.Delta.Stack++ },
		func(e *pack.Entry) { e.Delta.Put[1].ID++ }, func(e *pack.Entry) { e.Delta.Put[0].Pattern = "b" }, func(e *pack.Entry) { slices.Reverse(e.Delta.Put) }, func(e *pack.Entry) { e.Delta.Put = nil },
		func(e *pack.Entry) { e.Delta.Drop[2]++ }, func(e *pack.Entry) { slices.Reverse(e.Delta.Drop) }, func(e *pack.Entry) { e.Delta.Drop = e.Delta.Drop[:2] },
	}
	for _, change := range changes {
		for place := range 3 {
			a, b := state(3, 2, 0, 1, "XXX"), state(3, 2, 0, 1, "XXX")
			change(&b.Log[place])
			want := []pack.Record{cut(place)}
			for _, e := range b.Log[place:] {
				want = append(want, pack.Record{Kind: 2, Log: []pack.Entry{e}})
			}
			checkBetween(t, a, b, want...)
		}
	}
}

// P13.2: ErrState, if a record can't be applied behind those ahead of it: a lesser View, Normal or Commit, a log that parts ahead of Commit.
func TestBetweenErrState(t *testing.T) {
	s := state(5, 3, 2, 7, "aXc")
	for _, b := range []ledger.State{
		state(4, 3, 2, 7, "aXc"), state(4, 4, 2, 7, "aXc"), state(0, 0, 2, 7, "aXc"), state(3, 3, 2, 7, "aXc"),
		state(5, 2, 2, 7, "aXc"), state(5, 0, 2, 7, "aXc"), state(6, 2, 2, 7, "aXc"), state(1<<40, 0, 2, 7, "aXc"),
		state(5, 3, 1, 7, "aXc"), state(5, 3, 0, 7, "aXc"), state(9, 9, 1, 9, "aXcdef"), state(5, 3, 0, 7, "aX"),
		state(5, 3, 1, 7, "a"), state(5, 3, 0, 7, ""), state(5, 3, 2, 7, "aY"), state(5, 3, 2, 7, "aYc"), state(5, 3, 3, 7, "bXc"), state(9, 9, 6, 9, "aYcdef"), {},
	} {
		checkNoBetween(t, s, b, api.ErrState)
	}
	checkBetween(t, s, state(5, 3, 2, 7, "aX"), cut(2))
	checkBetween(t, s, state(5, 3, 2, 7, "aXY"), cut(2), added('Y'))
	checkNoBetween(t, state(0, 0, 1, 0, "a"), ledger.State{}, api.ErrState)
	checkNoBetween(t, state(1, 0, 0, 0, ""), ledger.State{}, api.ErrState)
	checkBetween(t, state(0, 0, 0, 9, "a"), ledger.State{}, cut(0), active(0))
}

// P13.2: the numbers one by one, against what the chapter says of the records.
func TestBetweenViews(t *testing.T) {
	for view := range 5 {
		for normal := range view + 1 {
			for next := range 6 {
				for then := range next + 1 {
					a, b := state(view, normal, 0, 0, ""), state(next, then, 0, 0, "")
					switch {
					case next < view || then < normal:
						checkNoBetween(t, a, b, api.ErrState)
					case next == view && then == normal:
						checkBetween(t, a, b)
					default:
						checkBetween(t, a, b, viewed(next, then))
					}
				}
			}
		}
	}
}

// P13.2: ErrForm, if one of the states isn't right, also where the records couldn't be applied, there are none, or they would be so.
func TestBetweenErrForm(t *testing.T) {
	list, again := wrongStates(), wrongStates()
	for i, s := range list {
		for _, right := range []ledger.State{{}, base(), state(1<<40, 1<<40, 64, 64, many(64))} {
			checkNoBetween(t, s, right, api.ErrForm)
			checkNoBetween(t, right, s, api.ErrForm)
		}
		checkNoBetween(t, s, again[i], api.ErrForm)
		checkNoBetween(t, s, list[(i+7)%len(list)], api.ErrForm)
	}
	checkNoBetween(t, state(5, 6, 0, 0, ""), state(6, 6, 0, 0, ""), api.ErrForm)
	checkNoBetween(t, state(5, 5, 0, 0, ""), state(5, 6, 0, 0, ""), api.ErrForm)
	checkNoBetween(t, state(5, 5, 0, 0, many(65)), state(5, 5, 0, 0, many(64)), api.ErrForm)
	checkNoBetween(t, state(5, 5, 0, 0, many(64)), state(5, 5, 0, 0, many(65)), api.ErrForm)
	checkNoBetween(t, ledger.State{View: math.MaxInt}, ledger.State{View: math.MinInt}, api.ErrForm)
}
