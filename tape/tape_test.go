package tape_test

import (
	"bytes"
	"fmt"
	"math"
	"testing"

	"colander/api"
	"colander/tape"
)

// The chapter's functions, as it lists them.
var (
	_ func(int) *tape.Tape                   = tape.New
	_ func(*tape.Tape, []byte) api.Errno     = (*tape.Tape).Append
	_ func(*tape.Tape) api.Errno             = (*tape.Tape).Sync
	_ func(*tape.Tape) []byte                = (*tape.Tape).Bytes
	_ func(*tape.Tape) int                   = (*tape.Tape).Safe
	_ func(*tape.Tape) int                   = (*tape.Tape).Room
	_ func(*tape.Tape, int)                  = (*tape.Tape).Arm
	_ func(t *tape.Tape, keep int, b []byte) = (*tape.Tape).Crash
	_ func(*tape.Tape, int) api.Errno        = (*tape.Tape).Trim
	_ func(*tape.Tape) bool                  = (*tape.Tape).Down
)

// state is what a tape is due to tell of itself.
type state struct {
	bytes      string
	safe, room int
	down       bool
}

// String tells no more than the first bytes: there may be very many.
func (s state) String() string {
	return fmt.Sprintf("{%d: %.40q, safe %d, room %d, down %v}", len(s.bytes), s.bytes, s.safe, s.room, s.down)
}

// look is what a tape tells of itself.
func look(p *tape.Tape) state { return state{string(p.Bytes()), p.Safe(), p.Room(), p.Down()} }

// check holds what a tape tells against what is due.
func check(t *testing.T, p *tape.Tape, want state) {
	t.Helper()
	if got := look(p); got != want {
		t.Fatalf("%v, not %v", got, want)
	}
}

// due holds an error against the one that is due.
func due(t *testing.T, e, want api.Errno) {
	t.Helper()
	if e != want {
		t.Fatalf("%d, not %d", e, want)
	}
}

// empty is an empty tape.
func empty(t *testing.T, room int) *tape.Tape {
	t.Helper()
	p := tape.New(room)
	if p == nil {
		t.Fatalf("no tape with room for %d", room)
	}
	return p
}

// laid is a tape of bytes that are safe, and others that aren't.
func laid(t *testing.T, room int, safe, loose string) *tape.Tape {
	t.Helper()
	p := empty(t, room)
	due(t, p.Append([]byte(safe)), api.OK)
	due(t, p.Sync(), api.OK)
	due(t, p.Append([]byte(loose)), api.OK)
	check(t, p, state{safe + loose, len(safe), room - len(safe) - len(loose), false})
	return p
}

// off is a tape of bytes that are safe, and others that aren't, that is down.
func off(t *testing.T, room int, safe, loose string) *tape.Tape {
	t.Helper()
	p := laid(t, room, safe, loose)
	p.Arm(0)
	due(t, p.Append(nil), api.ErrDown)
	check(t, p, state{safe + loose, len(safe), room - len(safe) - len(loose), true})
	return p
}

// kinds are tapes with no bytes, safe ones, others, both, and none or some room left.
var kinds = []struct {
	room        int
	safe, loose string
}{{0, "", ""}, {1, "", ""}, {9, "", ""}, {3, "abc", ""}, {9, "abc", ""}, {3, "", "xyz"}, {9, "", "xyz"}, {5, "abc", "xy"}, {9, "abc", "xy"}, {9, "a", "wxyz"}, {9, "a\x00", "\x00\xff"}}

// call is an Append, a Sync or a Trim that an empty tape with some room answers OK.
type call struct {
	name string
	do   func(*tape.Tape) api.Errno
}

var calls = []call{
	{"Append nothing", func(p *tape.Tape) api.Errno { return p.Append(nil) }},
	{"Append", func(p *tape.Tape) api.Errno { return p.Append([]byte("q")) }},
	{"Sync", func(p *tape.Tape) api.Errno { return p.Sync() }},
	{"Trim", func(p *tape.Tape) api.Errno { return p.Trim(0) }},
	{"Trim nothing", func(p *tape.Tape) api.Errno { return p.Trim(len(p.Bytes())) }},
}

// far are numbers beyond all bounds, also those that fewer bits would take for small ones.
var far = []int{math.MinInt, math.MinInt + 1, -1 << 32, -1<<32 + 1, -1 << 31, -1 << 20, -1000, 1<<20 + 1, 1 << 31, 1 << 32, 1<<32 + 1, 1<<32 + 3, 1 << 48, math.MaxInt - 1, math.MaxInt}

// The chapter's example.
func TestExample(t *testing.T) {
	p := empty(t, 10)
	due(t, p.Append([]byte{1, 2, 3}), api.OK)
	due(t, p.Sync(), api.OK)
	due(t, p.Append([]byte{4, 5}), api.OK)
	check(t, p, state{"\x01\x02\x03\x04\x05", 3, 5, false})
	p.Crash(1, []byte{0xf0})
	check(t, p, state{"\x01\x02\x03\xf4", 4, 6, false})
}

// P12.1: an empty tape, not down, with room for so many bytes.
func TestNew(t *testing.T) {
	for _, room := range []int{0, 1, 2, 255, 256, 65535, api.MaxFrame, api.MaxFrame + 1, api.MaxDisk - 1, api.MaxDisk} {
		check(t, empty(t, room), state{"", 0, room, false})
	}
}

// P12.1: nil, if room is not from 0 to MaxDisk.
func TestNewWrong(t *testing.T) {
	for _, room := range append([]int{-2, -1, api.MaxDisk + 1, api.MaxDisk + 2, 2 * api.MaxDisk, -api.MaxDisk}, far...) {
		if p := tape.New(room); p != nil {
			t.Errorf("%d: a tape", room)
		}
	}
}

// P12.1, P12.3: a new tape isn't armed.
func TestNewNotArmed(t *testing.T) {
	for _, c := range calls {
		p := empty(t, 1000)
		for range 1000 {
			due(t, c.do(p), api.OK)
		}
	}
}

// P12.1: two tapes have nothing in common.
func TestTwoTapes(t *testing.T) {
	one, two := empty(t, 4), empty(t, 4)
	due(t, one.Append([]byte("ab")), api.OK)
	check(t, two, state{"", 0, 4, false})
	one.Arm(0)
	due(t, two.Append([]byte("xyz")), api.OK)
	due(t, one.Sync(), api.ErrDown)
	check(t, one, state{"ab", 0, 2, true})
	check(t, two, state{"xyz", 0, 1, false})
	due(t, two.Sync(), api.OK)
	one.Crash(1, []byte{1})
	check(t, one, state{"`", 1, 3, false})
	check(t, two, state{"xyz", 3, 1, false})
}

// P12.2: b stands behind the bytes, not safe, as long as there is room; no bytes need none.
func TestAppend(t *testing.T) {
	for _, k := range kinds {
		bytes, left := k.safe+k.loose, k.room-len(k.safe)-len(k.loose)
		for n := range left + 1 {
			p := laid(t, k.room, k.safe, k.loose)
			more := "1\x0034567890"[:n]
			due(t, p.Append([]byte(more)), api.OK)
			check(t, p, state{bytes + more, len(k.safe), left - n, false})
			due(t, p.Append([]byte{}), api.OK)
			check(t, p, state{bytes + more, len(k.safe), left - n, false})
		}
	}
}

// P12.2: ErrSpace, if there are more bytes than there is room for; nothing of them stands there, and as many as there is room for still do.
func TestAppendErrSpace(t *testing.T) {
	for _, k := range kinds {
		was, left := k.safe+k.loose, k.room-len(k.safe)-len(k.loose)
		p := laid(t, k.room, k.safe, k.loose)
		for _, n := range []int{left + 1, left + 2, left + 100, api.MaxDisk + 1} {
			due(t, p.Append(bytes.Repeat([]byte("!"), n)), api.ErrSpace)
			check(t, p, state{was, len(k.safe), left, false})
		}
		rest := "123456789"[:left]
		due(t, p.Append([]byte(rest)), api.OK)
		check(t, p, state{was + rest, len(k.safe), 0, false})
		due(t, p.Append([]byte("!")), api.ErrSpace)
		due(t, p.Append(nil), api.OK)
		check(t, p, state{was + rest, len(k.safe), 0, false})
	}
}

// P12.2: so up to MaxDisk bytes, at once and byte by byte at the end.
func TestAppendMaxDisk(t *testing.T) {
	all := string(bytes.Repeat([]byte("abcdefgh"), api.MaxDisk/8))
	p := empty(t, api.MaxDisk)
	due(t, p.Append([]byte(all+"!")), api.ErrSpace)
	due(t, p.Append([]byte(all)), api.OK)
	check(t, p, state{all, 0, 0, false})
	due(t, p.Append([]byte("!")), api.ErrSpace)
	due(t, p.Trim(api.MaxDisk-2), api.OK)
	due(t, p.Append([]byte("123")), api.ErrSpace)
	due(t, p.Append([]byte("1")), api.OK)
	due(t, p.Append([]byte("23")), api.ErrSpace)
	due(t, p.Append([]byte("2")), api.OK)
	due(t, p.Append([]byte("3")), api.ErrSpace)
	check(t, p, state{all[:api.MaxDisk-2] + "12", api.MaxDisk - 2, 0, false})
}

// P12.2: all bytes are safe, also where all are already, and where there are none; what is appended behind it isn't.
func TestSync(t *testing.T) {
	for _, k := range kinds {
		bytes, left := k.safe+k.loose, k.room-len(k.safe)-len(k.loose)
		p := laid(t, k.room, k.safe, k.loose)
		for range 2 {
			due(t, p.Sync(), api.OK)
			check(t, p, state{bytes, len(bytes), left, false})
		}
		if left > 0 {
			due(t, p.Append([]byte("1")), api.OK)
			check(t, p, state{bytes + "1", len(bytes), left - 1, false})
			due(t, p.Sync(), api.OK)
			check(t, p, state{bytes + "1", len(bytes) + 1, left - 1, false})
		}
	}
}

// P12.2: only the first n bytes are left, and these are safe, whichever were; the room of the others is room again.
func TestTrim(t *testing.T) {
	for _, k := range kinds {
		bytes := k.safe + k.loose
		for n := range len(bytes) + 1 {
			p := laid(t, k.room, k.safe, k.loose)
			due(t, p.Trim(n), api.OK)
			check(t, p, state{bytes[:n], n, k.room - n, false})
			p.Crash(0, []byte{255})
			check(t, p, state{bytes[:n], n, k.room - n, false})
			rest := "123456789"[:k.room-n]
			due(t, p.Append([]byte(rest)), api.OK)
			check(t, p, state{bytes[:n] + rest, n, 0, false})
		}
	}
}

// P12.2: ErrRange, if n is not from 0 to how many bytes there are, whatever room there is; all stays as it was.
func TestTrimErrRange(t *testing.T) {
	for _, k := range kinds {
		bytes := k.safe + k.loose
		p := laid(t, k.room, k.safe, k.loose)
		for _, n := range append([]int{-1, -2, len(bytes) + 1, len(bytes) + 2, max(k.room, len(bytes)+1), k.room + 1, api.MaxDisk, api.MaxDisk + 1}, far...) {
			due(t, p.Trim(n), api.ErrRange)
			check(t, p, state{bytes, len(k.safe), k.room - len(bytes), false})
		}
		due(t, p.Trim(len(bytes)), api.OK)
		check(t, p, state{bytes, len(bytes), k.room - len(bytes), false})
	}
}

// P12.2: all three calls are answered ErrDown while it is down, ahead of ErrSpace and ErrRange, and change nothing.
func TestDown(t *testing.T) {
	for _, k := range kinds {
		p := off(t, k.room, k.safe, k.loose)
		want := state{k.safe + k.loose, len(k.safe), k.room - len(k.safe) - len(k.loose), true}
		for range 2 {
			for _, n := range []int{0, 1, want.room, want.room + 1, 100, api.MaxDisk + 1} {
				due(t, p.Append(bytes.Repeat([]byte("!"), n)), api.ErrDown)
				check(t, p, want)
			}
			due(t, p.Sync(), api.ErrDown)
			check(t, p, want)
			for _, n := range append([]int{-2, -1, 0, 1, len(k.safe), len(want.bytes), len(want.bytes) + 1, k.room, k.room + 1}, far...) {
				due(t, p.Trim(n), api.ErrDown)
				check(t, p, want)
			}
		}
	}
}

// P12.3, P12.4: while it is down Arm brings it not back, and a crash leaves nothing of it.
func TestDownArm(t *testing.T) {
	for _, n := range append([]int{-2, -1, 0, 1, 2, 3}, far...) {
		p := off(t, 9, "abc", "xy")
		p.Arm(n)
		check(t, p, state{"abcxy", 3, 4, true})
		for _, c := range calls {
			due(t, c.do(p), api.ErrDown)
			check(t, p, state{"abcxy", 3, 4, true})
		}
		p.Crash(1, nil)
		check(t, p, state{"abcx", 4, 5, false})
		for range 2 {
			for _, c := range calls {
				due(t, c.do(p), api.OK)
			}
		}
	}
}
