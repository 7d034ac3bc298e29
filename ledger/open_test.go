package ledger_test

import (
	"bytes"
	"math/rand"
	"slices"
	"testing"

	"colander/api"
	"colander/frame"
	"colander/ledger"
	"colander/pack"
	"colander/tape"
)

// look is what a tape tells of itself.
type look struct {
	bytes      string
	safe, room int
	down       bool
}

func looked(p *tape.Tape) look { return look{string(p.Bytes()), p.Safe(), p.Room(), p.Down()} }

// checkTape holds what a tape tells of itself.
func checkTape(t *testing.T, p *tape.Tape, b []byte, safe int, down bool) {
	t.Helper()
	if got := looked(p); got.bytes != string(b) || got.safe != safe || got.down != down {
		t.Fatalf("%d bytes %x, safe %d, down %v; not %d bytes %x, %d, %v", len(got.bytes), got.bytes, got.safe, got.down, len(b), b, safe, down)
	}
}

// laid is a tape of bytes that are safe, and others that aren't, with some room.
func laid(t *testing.T, room int, safe, loose []byte) *tape.Tape {
	t.Helper()
	p := tape.New(len(safe) + len(loose) + room)
	due(t, p.Append(safe), api.OK)
	due(t, p.Sync(), api.OK)
	due(t, p.Append(loose), api.OK)
	return p
}

// opened is the ledger on a tape, with the state that is due.
func opened(t *testing.T, p *tape.Tape, want ledger.State) *ledger.Ledger {
	t.Helper()
	l, e := ledger.Open(p)
	if e != api.OK || l == nil {
		t.Fatalf("%x: no ledger, %d", p.Bytes(), e)
	}
	checkState(t, l, want)
	return l
}

// checkState holds what a ledger tells.
func checkState(t *testing.T, l *ledger.Ledger, want ledger.State) {
	t.Helper()
	if got := l.State(); !same(got, want) || !got.Right() {
		t.Fatalf("%+v, not %+v", got, want)
	}
}

// checkOpen opens tapes with bytes, safe ones and others, of which the first ones are records that lead to a state, and the others are none.
func checkOpen(t *testing.T, b []byte, used int, want ledger.State) {
	t.Helper()
	for _, safe := range []int{0, used / 2, used, len(b)} {
		p := laid(t, 500, b[:safe], b[safe:])
		if used == len(b) {
			p.Arm(0)
		} else {
			p.Arm(1)
			safe = used
		}
		opened(t, p, want)
		checkTape(t, p, b[:used], safe, false)
		opened(t, p, want)
		checkTape(t, p, b[:used], safe, false)
		// Were a call of the tape done too much, or too few, it would be down now, or not be so then.
		due(t, p.Sync(), api.ErrDown)
	}
}

// rows are records that can be applied one behind the other, to the first state.
func rows() [][]pack.Record {
	full := append(addedAll(many(64)), viewed(1<<40, 1<<40), committed(64), active(64))
	return [][]pack.Record{
		{viewed(1, 0)}, {added('a')}, {cut(0)}, {committed(0)}, {active(64)}, {viewed(0, 0), cut(0), committed(0), active(0)},
		{added('X'), added('a'), viewed(4, 2), committed(2), active(1)},
		{added('a'), added('X'), viewed(4, 2), committed(1), added('c'), cut(1), added('d'), added('Y'), committed(3), active(9), viewed(4, 4), active(0)},
		full, append(full[:64:64], cut(0), added('q'), committed(1)), slices.Repeat([]pack.Record{added('X'), cut(0), viewed(7, 7)}, 100),
	}
}

// P13.3: an empty tape has the first state.
func TestOpenEmpty(t *testing.T) {
	checkOpen(t, nil, 0, ledger.State{})
	p := tape.New(0)
	opened(t, p, ledger.State{})
	checkTape(t, p, nil, 0, false)
}

// P13.3: whole frames lead to the state that their records make, one behind the other, and nothing is done with the tape.
func TestOpenWhole(t *testing.T) {
	for _, row := range rows() {
		way := applied(t, ledger.State{}, row...)
		for n, s := range way[:min(len(way), 80)] {
			b := inBytes(t, row[:n]...)
			checkOpen(t, b, len(b), s)
		}
	}
}

// P13.3: frames that are cut off at each place; the part of one is trimmed off.
func TestOpenCut(t *testing.T) {
	for _, row := range rows()[:8] {
		way := applied(t, ledger.State{}, row...)
		b := inBytes(t, row...)
		for n := range b {
			whole, used := 0, 0
			for len(inBytes(t, row[:whole+1]...)) <= n {
				whole++
				used = len(inBytes(t, row[:whole]...))
			}
			checkOpen(t, b[:n], used, way[whole])
		}
	}
}

// P13.3: frames with a byte that is another one; from that frame on all is trimmed off.
func TestOpenTurned(t *testing.T) {
	row := rows()[7]
	way := applied(t, ledger.State{}, row...)
	b := inBytes(t, row...)
	for place := range b {
		whole := 0
		for len(inBytes(t, row[:whole+1]...)) <= place {
			whole++
		}
		for _, turn := range []byte{1, 2, 0x80, 0xff} {
			other := bytes.Clone(b)
			other[place] ^= turn
			checkOpen(t, other, len(inBytes(t, row[:whole]...)), way[whole])
		}
	}
}

// noBodies are bodies of right frames that are no record's.
func noBodies(t *testing.T) [][]byte {
	t.Helper()
	one, e := pack.EncodeRecord(viewed(9, 9))
	due(t, e, api.OK)
	entry, e := pack.EncodeRecord(added('X'))
	due(t, e, api.OK)
	message, e := pack.Encode(pack.Message{Kind: 2, View: 9})
	due(t, e, api.OK)
	list := [][]byte{nil, {1}, []byte("view 9"), one[:23], append(bytes.Clone(one), 0), slices.Concat(one, one), inBytes(t, viewed(9, 9)), message, entry[:len(entry)-1], append(bytes.Clone(entry), 0), make([]byte, 24), make([]byte, api.MaxFrame), bytes.Repeat(one, 65536/24)}
	for _, c := range []struct {
		place int
		value byte
	}{{5, 0}, {5, 1}, {5, 7}, {5, 255}, {4, 1}, {0, 1}, {6, 1}, {6, 255}, {11, 0}, {12, 128}, {17, 0}, {23, 0}, {23, 2}, {18, 1}} {
		other := bytes.Clone(one)
		other[c.place] = c.value
		list = append(list, other)
	}
	// Client and Request of the entry, and what it has to be for a record of another Kind.
	for _, c := range []struct {
		place int
		value byte
	}{{5, 2}, {5, 4}, {23, 1}, {23, 3}, {35, 1}, {41, 1}, {41, 0}, {47, 255}} {
		other := bytes.Clone(entry)
		other[c.place] = c.value
		if c.place == 47 {
			other[42] = c.value
		}
		list = append(list, other)
	}
	return list
}

// P13.3: a body that is no record's ends it, whatever stands behind it.
func TestOpenNoBody(t *testing.T) {
	for _, body := range noBodies(t) {
		if _, e := pack.DecodeRecord(body); e == api.OK {
			t.Fatalf("%x: a record", body)
		}
		for _, row := range rows()[:7] {
			way := applied(t, ledger.State{}, row...)
			for _, n := range []int{0, len(row) / 2, len(row)} {
				b := inBytes(t, row[:n]...)
				for _, behind := range [][]byte{nil, inBytes(t, active(8)), inBytes(t, row[n:]...), []byte("CF")} {
					checkOpen(t, slices.Concat(b, framed(t, body), behind), len(b), way[n])
				}
			}
		}
	}
}

// P13.3: so does a record that can't be applied to the state so far.
func TestOpenCantApply(t *testing.T) {
	for _, c := range []struct {
		row []pack.Record
		bad []pack.Record
	}{
		{nil, []pack.Record{viewed(0, 1), viewed(5, 6), cut(1), cut(1 << 40), committed(1), committed(64), active(65), active(1 << 40)}},
		{[]pack.Record{viewed(5, 3)}, []pack.Record{viewed(4, 4), viewed(4, 3), viewed(5, 2), viewed(6, 2), viewed(6, 7), viewed(0, 0), viewed(1<<40, 0)}},
		{append(addedAll("aXc"), committed(2)), []pack.Record{cut(1), cut(0), cut(4), committed(1), committed(0), committed(4), active(66)}},
		{append(addedAll(many(64)), committed(64)), []pack.Record{added('a'), added('X'), cut(63), cut(65), committed(63), committed(65)}},
	} {
		way := applied(t, ledger.State{}, c.row...)
		s, b := way[len(way)-1], inBytes(t, c.row...)
		for _, r := range c.bad {
			checkNoApply(t, s, r, api.ErrState)
			for _, behind := range [][]byte{nil, inBytes(t, active(8)), inBytes(t, viewed(900, 900), active(8)), inBytes(t, r), []byte("no")} {
				checkOpen(t, slices.Concat(b, inBytes(t, r), behind), len(b), s)
			}
		}
	}
}

// P13.3: bytes that are nothing.
func TestOpenNothing(t *testing.T) {
	list := [][]byte{{0}, {'C'}, []byte("CF"), []byte("CFCFCFCFCFCFCFCFCFCFCFCF"), make([]byte, 9), make([]byte, 10), make([]byte, 500), bytes.Repeat([]byte{255}, 300), []byte("CF\x00\x01\x00\x01\x00\x00\x00\x01"), []byte("CF\xff\xff\xff\xff\x00\x00\x00\x01")}
	r := rand.New(rand.NewSource(1))
	for n := range 100 {
		b := make([]byte, 1+n)
		r.Read(b)
		list = append(list, b)
	}
	first := inBytes(t, viewed(9, 8), added('X'))
	for _, b := range list {
		checkOpen(t, b, 0, ledger.State{})
		checkOpen(t, append(bytes.Clone(b), first...), 0, ledger.State{})
		checkOpen(t, append(bytes.Clone(first), b...), len(first), state(9, 8, 0, 0, "X"))
		checkOpen(t, slices.Concat(first, b, first), len(first), state(9, 8, 0, 0, "X"))
	}
}

// checkNoOpen holds that there is no ledger.
func checkNoOpen(t *testing.T, p *tape.Tape, want api.Errno) {
	t.Helper()
	if l, e := ledger.Open(p); e != want || l != nil {
		t.Fatalf("%v %d, not %d", l, e, want)
	}
}

// P13.3: the tape's error, where it can't be trimmed; the tape has all that it had, and the next time it can be.
func TestOpenErrDown(t *testing.T) {
	first := inBytes(t, viewed(9, 8), added('X'))
	for _, behind := range [][]byte{{0}, []byte("CF"), first[:33], inBytes(t, viewed(0, 1)), framed(t, nil)} {
		for _, begin := range [][]byte{nil, first} {
			b := slices.Concat(begin, behind)
			want := ledger.State{}
			if len(begin) > 0 {
				want = state(9, 8, 0, 0, "X")
			}
			for _, safe := range []int{0, len(begin), len(b)} {
				p := laid(t, 500, b[:safe], b[safe:])
				p.Arm(0)
				for range 2 {
					checkNoOpen(t, p, api.ErrDown)
					checkTape(t, p, b, safe, true)
				}
				p.Crash(len(b), nil)
				opened(t, p, want)
				checkTape(t, p, begin, len(begin), false)
			}
		}
	}
}

// P13.3: where there is nothing to trim, a tape that is down is as good as another one.
func TestOpenDown(t *testing.T) {
	for _, row := range rows()[:8] {
		way := applied(t, ledger.State{}, row...)
		b := inBytes(t, row...)
		p := laid(t, 500, nil, b)
		p.Arm(0)
		due(t, p.Sync(), api.ErrDown)
		opened(t, p, way[len(way)-1])
		checkTape(t, p, b, 0, true)
	}
}

// P13.3: what was trimmed off is room again, and a ledger that was opened so goes on behind what was read.
func TestOpenGoesOn(t *testing.T) {
	first := inBytes(t, viewed(9, 8), added('X'))
	p := laid(t, 0, first, inBytes(t, viewed(8, 8)))
	l := opened(t, p, state(9, 8, 0, 0, "X"))
	due(t, l.Save(state(9, 9, 0, 0, "X")), api.OK)
	b := slices.Concat(first, inBytes(t, viewed(9, 9)))
	checkTape(t, p, b, len(b), false)
	opened(t, p, state(9, 9, 0, 0, "X"))
}

// P13.3: a tape that is full of records, up to MaxDisk.
func TestOpenMaxDisk(t *testing.T) {
	one := append(addedAll(many(64)), viewed(7, 7), cut(0))
	b := inBytes(t, one...)
	row := slices.Repeat(one, api.MaxDisk/len(b))
	want := state(7, 7, 0, 0, "")
	b = inBytes(t, row...)
	for len(b)+34 <= api.MaxDisk {
		want.View++
		b = append(b, inBytes(t, viewed(want.View, 7))...)
	}
	p := laid(t, 0, b, make([]byte, api.MaxDisk-len(b)))
	opened(t, p, want)
	checkTape(t, p, b, len(b), false)
	if bodies, used := frame.Scan(b); used != len(b) || len(bodies) < 1000 {
		t.Fatalf("%d frames", len(bodies))
	}
}
