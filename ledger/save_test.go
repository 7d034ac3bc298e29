package ledger_test

import (
	"encoding/hex"
	"math"
	"slices"
	"strings"
	"testing"

	"colander/api"
	"colander/ledger"
	"colander/pack"
	"colander/tape"
)

// fresh is a ledger on an empty tape.
func fresh(t *testing.T, room int) (*tape.Tape, *ledger.Ledger) {
	t.Helper()
	p := tape.New(room)
	return p, opened(t, p, ledger.State{})
}

// The chapter's example, byte by byte.
func TestExample(t *testing.T) {
	p, l := fresh(t, 100)
	due(t, l.Save(ledger.State{View: 1}), api.OK)
	want, err := hex.DecodeString(strings.ReplaceAll("4346 00000018 00600007 000000000002 000000000002 000000000001 000000000001", " ", ""))
	if err != nil || len(want) != 34 {
		t.Fatal(len(want), err)
	}
	checkTape(t, p, want, 34, false)
	checkState(t, l, ledger.State{View: 1})
}

// P13.4: saved are one and several records, that lead from each state to the next one; the state is the last that was saved, and Open tells it.
func TestSave(t *testing.T) {
	for _, list := range [][]ledger.State{
		{{View: 1}}, {state(0, 0, 0, 0, "a")}, {state(0, 0, 0, 64, "")},
		{state(4, 2, 2, 1, "Xa"), state(4, 2, 2, 1, "XaY"), state(4, 4, 2, 1, "Xab"), state(4, 4, 3, 9, "Xab"), state(5, 4, 3, 9, "Xab"), state(1<<40, 1<<40, 3, 0, "Xab")},
		{state(0, 0, 0, 0, many(64)), state(0, 0, 0, 0, "q"), state(9, 9, 64, 64, "q"+many(63))},
		{state(1, 0, 0, 0, ""), state(1, 1, 0, 0, ""), state(2, 1, 0, 0, "a"), state(2, 1, 0, 5, "a"), state(2, 1, 1, 5, "a"), state(2, 1, 1, 5, "aX"), state(2, 1, 1, 5, "a"), state(2, 2, 2, 4, "aY")},
	} {
		p, l := fresh(t, 1<<18)
		var b []byte
		last := ledger.State{}
		for _, s := range list {
			records, e := ledger.Between(last, s)
			if e != api.OK || len(records) == 0 {
				t.Fatalf("%+v, %+v: %d", last, s, e)
			}
			checkState(t, l, last)
			due(t, l.Save(s), api.OK)
			checkState(t, l, s)
			b = append(b, inBytes(t, records...)...)
			checkTape(t, p, b, len(b), false)
			opened(t, laid(t, 0, p.Bytes(), nil), s)
			last = s
		}
		due(t, opened(t, p, last).Save(last), api.OK)
		checkTape(t, p, b, len(b), false)
	}
}

// P13.4: the same state is saved without a call of the tape, whatever its room and whether it is down.
func TestSaveSame(t *testing.T) {
	for _, s := range rightStates() {
		p, l := fresh(t, 1<<18)
		due(t, l.Save(s), api.OK)
		was := looked(p)
		p.Arm(0)
		for range 3 {
			due(t, l.Save(s), api.OK)
			due(t, l.Save(l.State()), api.OK)
			checkState(t, l, s)
		}
		if now := looked(p); now != was {
			t.Fatalf("%+v, not %+v", now, was)
		}
		due(t, p.Sync(), api.ErrDown)
		due(t, l.Save(s), api.OK)
		checkState(t, l, s)
	}
	_, l := fresh(t, 0)
	due(t, l.Save(ledger.State{}), api.OK)
	due(t, l.Save(ledger.State{Log: []pack.Entry{}}), api.OK)
	checkState(t, l, ledger.State{})
}

// step is a save from a state to another one, of one or several records.
type step struct{ from, to ledger.State }

var steps = []step{
	{ledger.State{}, ledger.State{View: 1}},
	{ledger.State{}, state(4, 2, 2, 1, "Xa")},
	{state(4, 2, 1, 1, "Xa"), state(4, 2, 1, 1, "X")},
	{state(4, 2, 1, 1, "Xa"), state(4, 2, 1, 1, "Xaa")},
	{state(4, 2, 1, 1, "Xa"), state(4, 2, 2, 1, "Xa")},
	{state(4, 2, 1, 1, "Xa"), state(4, 2, 1, 0, "Xa")},
	{state(4, 2, 1, 1, "Xa"), state(9, 9, 4, 3, "XbcY")},
}

// ready is a ledger in the state that a step is from, on a tape with room for so many bytes more, and the bytes of both states.
func (x step) ready(t *testing.T, room int) (p *tape.Tape, l *ledger.Ledger, was, more []byte) {
	t.Helper()
	ahead, e := ledger.Between(ledger.State{}, x.from)
	due(t, e, api.OK)
	records, e := ledger.Between(x.from, x.to)
	due(t, e, api.OK)
	was, more = inBytes(t, ahead...), inBytes(t, records...)
	p = tape.New(len(was) + room)
	l = opened(t, p, ledger.State{})
	due(t, l.Save(x.from), api.OK)
	checkTape(t, p, was, len(was), false)
	return p, l, was, more
}

// P13.4: all frames are appended in one call, and it is synced by one more, and no other is done.
func TestSaveCalls(t *testing.T) {
	for _, x := range steps {
		p, l, was, more := x.ready(t, 1000)
		p.Arm(0)
		due(t, l.Save(x.to), api.ErrDown)
		checkTape(t, p, slices.Concat(was, more), len(was), true)
		p, l, was, more = x.ready(t, 1000)
		p.Arm(1)
		due(t, l.Save(x.to), api.ErrDown)
		checkTape(t, p, slices.Concat(was, more), len(was), true)
		checkState(t, l, x.from)
		p, l, was, more = x.ready(t, 1000)
		p.Arm(2)
		due(t, l.Save(x.to), api.OK)
		checkTape(t, p, slices.Concat(was, more), len(was)+len(more), false)
		checkState(t, l, x.to)
		due(t, p.Sync(), api.ErrDown)
	}
}

// checkBroken holds that all is ErrDown, whatever is saved, and that nothing is done with the tape, up or down.
func checkBroken(t *testing.T, p *tape.Tape, l *ledger.Ledger, x step) {
	t.Helper()
	check := func() {
		t.Helper()
		was := looked(p)
		for _, s := range []ledger.State{x.from, x.to, {}, {View: -1}, {Normal: 1}, state(0, 0, 0, 0, many(65)), state(99, 99, 2, 2, "Xa"), {View: math.MaxInt}} {
			due(t, l.Save(s), api.ErrDown)
			checkState(t, l, x.from)
		}
		if now := looked(p); now != was {
			t.Fatalf("%+v, not %+v", now, was)
		}
	}
	check()
	p.Crash(0, nil)
	check()
	p.Arm(0)
	check()
	due(t, p.Sync(), api.ErrDown)
	check()
	p.Crash(0, nil)
	opened(t, p, x.from)
	check()
}

// P13.4: ErrSpace, if there is no room for all of them; nothing of them stands there, it isn't synced, the state stays, and the ledger is broken.
func TestSaveErrSpace(t *testing.T) {
	for _, x := range steps {
		_, _, _, more := x.ready(t, 1000)
		for room := range len(more) {
			p, l, was, _ := x.ready(t, room)
			p.Arm(0)
			due(t, l.Save(x.to), api.ErrSpace)
			checkTape(t, p, was, len(was), false)
			checkBroken(t, p, l, x)
		}
		p, l, was, more := x.ready(t, len(more))
		due(t, l.Save(x.to), api.OK)
		checkTape(t, p, slices.Concat(was, more), len(was)+len(more), false)
		checkState(t, l, x.to)
		due(t, l.Save(x.to), api.OK)
	}
}

// P13.4: bytes that aren't safe yet aren't synced where there is no room, but are where there is.
func TestSaveLoose(t *testing.T) {
	b := inBytes(t, added('a'), viewed(9, 9))
	for _, room := range []int{33, 34} {
		p := laid(t, room, nil, b)
		l := opened(t, p, state(9, 9, 0, 0, "a"))
		if room < 34 {
			due(t, l.Save(state(9, 9, 1, 0, "a")), api.ErrSpace)
			checkTape(t, p, b, 0, false)
			checkState(t, l, state(9, 9, 0, 0, "a"))
			continue
		}
		due(t, l.Save(state(9, 9, 1, 0, "a")), api.OK)
		checkTape(t, p, slices.Concat(b, inBytes(t, committed(1))), len(b)+34, false)
		due(t, l.Save(state(9, 9, 1, 1, "a")), api.ErrSpace)
	}
}

// P13.4: ErrDown, at the append, at the sync, or where the tape is down already; the state stays, and the ledger is broken, also behind a crash.
func TestSaveErrDown(t *testing.T) {
	for _, x := range steps {
		for _, n := range []int{-1, 0, 1} {
			p, l, was, more := x.ready(t, 1000)
			b := slices.Concat(was, more)
			p.Arm(n)
			if n < 0 {
				p.Arm(0)
				due(t, p.Trim(len(was)), api.ErrDown)
				b = was
			}
			due(t, l.Save(x.to), api.ErrDown)
			checkTape(t, p, b, len(was), true)
			checkState(t, l, x.from)
			checkBroken(t, p, l, x)
		}
	}
}

// P13.4: ErrDown of a tape without room that is down, as the tape names it first.
func TestSaveErrDownFirst(t *testing.T) {
	for _, x := range steps {
		p, l, was, _ := x.ready(t, 3)
		p.Arm(0)
		due(t, p.Sync(), api.ErrDown)
		due(t, l.Save(x.to), api.ErrDown)
		checkTape(t, p, was, len(was), true)
		checkBroken(t, p, l, x)
	}
}

// P13.4: Between's errors, ahead of the tape's; they change nothing, and the ledger isn't broken.
func TestSaveBetween(t *testing.T) {
	s := state(4, 2, 1, 1, "Xa")
	wrong := append(wrongStates(), ledger.State{View: -1})
	unlike := []ledger.State{{}, state(3, 2, 1, 1, "Xa"), state(4, 1, 1, 1, "Xa"), state(9, 1, 1, 1, "Xa"), state(4, 2, 0, 1, "Xa"), state(4, 2, 1, 1, "aX"), state(4, 2, 0, 1, ""), state(9, 9, 2, 9, "aaaa")}
	for _, down := range []bool{false, true} {
		p, l, was, _ := step{s, s}.ready(t, 500)
		p.Arm(0)
		if down {
			due(t, p.Sync(), api.ErrDown)
		}
		for _, next := range wrong {
			due(t, l.Save(next), api.ErrForm)
			checkState(t, l, s)
		}
		for _, next := range unlike {
			due(t, l.Save(next), api.ErrState)
			checkState(t, l, s)
		}
		checkTape(t, p, was, len(was), down)
		due(t, l.Save(s), api.OK)
		p.Crash(0, nil)
		due(t, l.Save(state(4, 4, 1, 1, "Xa")), api.OK)
		b := slices.Concat(was, inBytes(t, viewed(4, 4)))
		checkTape(t, p, b, len(b), false)
		due(t, l.Save(wrong[0]), api.ErrForm)
		checkState(t, l, state(4, 4, 1, 1, "Xa"))
	}
}

// P13.4: two ledgers on two tapes have nothing in common.
func TestTwoLedgers(t *testing.T) {
	p, one := fresh(t, 1000)
	q, two := fresh(t, 1000)
	due(t, one.Save(state(3, 2, 1, 0, "Xa")), api.OK)
	checkState(t, two, ledger.State{})
	checkTape(t, q, nil, 0, false)
	p.Arm(0)
	due(t, one.Save(state(4, 2, 1, 0, "Xa")), api.ErrDown)
	due(t, two.Save(state(5, 5, 0, 0, "b")), api.OK)
	checkState(t, one, state(3, 2, 1, 0, "Xa"))
	checkState(t, two, state(5, 5, 0, 0, "b"))
}

// P13.4: saves of all kinds, again and again, up to a full tape; what there is no room for is not there.
func TestSaveFull(t *testing.T) {
	p, l := fresh(t, api.MaxDisk)
	last := ledger.State{}
	for n := 1; ; n++ {
		next := state(n, n-1, 0, n%65, many(n%65))
		e := l.Save(next)
		if e == api.OK {
			last = next
			continue
		}
		due(t, e, api.ErrSpace)
		if n < 100 {
			t.Fatalf("%d saves only", n)
		}
		break
	}
	checkState(t, l, last)
	opened(t, p, last)
}
