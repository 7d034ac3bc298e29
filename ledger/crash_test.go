package ledger_test

import (
	"bytes"
	"math/rand"
	"slices"
	"testing"

	"colander/api"
	"colander/ledger"
	"colander/tape"
)

// chains are states that are saved one behind the other, from an empty tape on.
var chains = [][]ledger.State{
	{{View: 1}, {View: 2}, {View: 2, Normal: 2}},
	{state(1, 0, 0, 0, ""), state(1, 1, 0, 0, "a"), state(2, 1, 1, 0, "aX"), state(2, 2, 1, 1, "abc"), state(2, 2, 3, 2, "abc"), state(3, 3, 3, 0, "abcd")},
	{state(9, 9, 2, 5, "XYa"), state(9, 9, 2, 5, "XYb"), state(12, 11, 3, 0, "XYZab"), state(12, 11, 5, 0, "XYZab")},
	{state(3, 1, 0, 0, "aaaa"), state(3, 1, 0, 0, "aaba"), state(4, 4, 1, 9, "a"), state(4, 4, 1, 9, "aaaa")},
}

// onTheWay are the states from one to another one, as their records are applied one by one.
func onTheWay(t *testing.T, a, b ledger.State) []ledger.State {
	t.Helper()
	records, e := ledger.Between(a, b)
	due(t, e, api.OK)
	return applied(t, a, records...)
}

// saved saves the states till the tape has an error; it tells which one was saved last, and which one was not.
func saved(t *testing.T, l *ledger.Ledger, chain []ledger.State) (last, next ledger.State) {
	t.Helper()
	for _, s := range chain {
		if e := l.Save(s); e != api.OK {
			due(t, e, api.ErrDown)
			return last, s
		}
		last = s
	}
	return last, last
}

// checkCrash lets the power go behind n calls and brings the tape back; what Open tells is a state on the way, and it can be gone on from there.
func checkCrash(t *testing.T, chain []ledger.State, n, keep int, turn []byte) {
	t.Helper()
	p, l := fresh(t, 1<<16)
	p.Arm(n)
	last, next := saved(t, l, chain)
	loose := len(p.Bytes()) - p.Safe()
	p.Crash(keep, turn)
	left := p.Bytes()
	l, e := ledger.Open(p)
	due(t, e, api.OK)
	got, way := l.State(), onTheWay(t, last, next)
	place := slices.IndexFunc(way, func(s ledger.State) bool { return same(s, got) })
	if place < 0 {
		t.Fatalf("%d calls, %d of %d bytes, %x: %+v, which is not on the way from %+v to %+v", n, keep, loose, turn, got, last, next)
	}
	if keep >= loose && !turns(turn, loose) && !same(got, next) && loose > 0 {
		t.Fatalf("%d calls, all bytes: %+v, not %+v", n, got, next)
	}
	if b := p.Bytes(); !bytes.HasPrefix(left, b) || p.Safe() != len(b) {
		t.Fatalf("%x, safe %d, of %x", b, p.Safe(), left)
	}
	due(t, l.Save(next), api.OK)
	p.Crash(0, nil)
	opened(t, p, next)
}

// turns tells whether a turn has another byte than 0 among the first n.
func turns(turn []byte, n int) bool {
	return slices.ContainsFunc(turn[:min(n, len(turn))], func(c byte) bool { return c != 0 })
}

// P13.5: the power goes at each call of each save, whatever number of bytes is kept, and none, some or all are turned.
func TestCrash(t *testing.T) {
	random := make([]byte, 1000)
	rand.New(rand.NewSource(1)).Read(random)
	turnings := [][]byte{nil, {0, 0}, {1}, {0x80}, append(make([]byte, 33), 1), append(make([]byte, 40), 0xff), bytes.Repeat([]byte{255}, 1000), bytes.Repeat([]byte{1}, 1000), random}
	for _, chain := range chains {
		for n := range 2*len(chain) + 2 {
			p, l := fresh(t, 1<<16)
			p.Arm(n)
			saved(t, l, chain)
			loose := len(p.Bytes()) - p.Safe()
			for keep := -1; keep <= loose+1; keep++ {
				for _, turn := range turnings {
					checkCrash(t, chain, n, keep, turn)
				}
			}
			for place := range loose {
				for _, c := range []byte{1, 0x10, 0x80, 0xff} {
					checkCrash(t, chain, n, loose, append(make([]byte, place), c))
				}
			}
		}
	}
}

// P13.5: behind a save that was answered OK nothing of it is lost, whatever the crash takes and turns.
func TestCrashBetweenSaves(t *testing.T) {
	for _, chain := range chains {
		p, l := fresh(t, 1<<16)
		for i, s := range chain {
			due(t, l.Save(s), api.OK)
			b := p.Bytes()
			p.Crash(i-1, bytes.Repeat([]byte{255}, i*9))
			checkTape(t, p, b, len(b), false)
			if i%2 == 0 {
				l = opened(t, p, s)
			}
		}
	}
}

// P13.5: a power that goes when Open trims leaves all as it was.
func TestCrashOpen(t *testing.T) {
	for _, chain := range chains {
		for n := range 2 * len(chain) {
			p, l := fresh(t, 1<<16)
			p.Arm(n)
			last, next := saved(t, l, chain)
			p.Crash((len(p.Bytes())-p.Safe())/2, nil)
			b := p.Bytes()
			p.Arm(0)
			again, e := ledger.Open(p)
			if e != api.OK {
				due(t, e, api.ErrDown)
				checkTape(t, p, b, len(b), true)
				p.Crash(0, []byte{1, 2, 3})
				again, e = ledger.Open(p)
				due(t, e, api.OK)
			}
			got := again.State()
			if !slices.ContainsFunc(onTheWay(t, last, next), func(s ledger.State) bool { return same(s, got) }) {
				t.Fatalf("%+v: not from %+v to %+v", got, last, next)
			}
			p.Arm(-1)
			due(t, again.Save(next), api.OK)
			opened(t, p, next)
		}
	}
}

// P13.5: crashes again and again, with states from everywhere; what was answered OK stays.
func TestCrashesGrown(t *testing.T) {
	r := rand.New(rand.NewSource(2))
	for range 300 {
		p := tape.New(1 << 18)
		last, next := ledger.State{}, ledger.State{}
		for range 20 {
			l, e := ledger.Open(p)
			if e != api.OK {
				due(t, e, api.ErrDown)
				p.Crash(r.Intn(9), nil)
				continue
			}
			got := l.State()
			if !slices.ContainsFunc(onTheWay(t, last, next), func(s ledger.State) bool { return same(s, got) }) {
				t.Fatalf("%+v: not from %+v to %+v", got, last, next)
			}
			p.Arm(r.Intn(8))
			last, next = got, got
			for !p.Down() {
				next = grownNext(r, last)
				if l.Save(next) == api.OK {
					last = next
				}
			}
			turn := make([]byte, r.Intn(40))
			if r.Intn(2) == 0 {
				r.Read(turn)
			}
			p.Crash(r.Intn(len(p.Bytes())-p.Safe()+2)-1, turn)
			p.Arm(r.Intn(6) - 1)
		}
	}
}
