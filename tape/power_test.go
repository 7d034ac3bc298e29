package tape_test

import (
	"bytes"
	"math"
	"testing"

	"colander/api"
	"colander/tape"
)

// P12.3: n calls that are answered OK are done, whichever of the three they are; the next one is not, and the tape is down.
func TestArm(t *testing.T) {
	for n := range 12 {
		for first := range calls {
			for _, last := range calls {
				p := empty(t, 99)
				p.Arm(n)
				for i := range n {
					due(t, calls[(first+i)%len(calls)].do(p), api.OK)
					if p.Down() {
						t.Fatalf("%d: down behind %d", n, i+1)
					}
				}
				due(t, last.do(p), api.ErrDown)
				if !p.Down() {
					t.Fatalf("%d, %s: not down", n, last.name)
				}
				for _, c := range calls {
					due(t, c.do(p), api.ErrDown)
				}
			}
		}
	}
}

// P12.3: what is done ahead of the power's end is done whole.
func TestArmDone(t *testing.T) {
	p := laid(t, 9, "abc", "xy")
	p.Arm(4)
	due(t, p.Append([]byte("z")), api.OK)
	check(t, p, state{"abcxyz", 3, 3, false})
	due(t, p.Sync(), api.OK)
	check(t, p, state{"abcxyz", 6, 3, false})
	due(t, p.Append([]byte("12")), api.OK)
	check(t, p, state{"abcxyz12", 6, 1, false})
	due(t, p.Trim(7), api.OK)
	check(t, p, state{"abcxyz1", 7, 2, false})
	due(t, p.Append([]byte("!?")), api.ErrDown)
	check(t, p, state{"abcxyz1!?", 7, 0, true})
}

// P12.3: the bytes of an Append at which the power goes stand there, not safe.
func TestArmAppend(t *testing.T) {
	for _, k := range kinds {
		was, left := k.safe+k.loose, k.room-len(k.safe)-len(k.loose)
		for n := range left + 1 {
			p := laid(t, k.room, k.safe, k.loose)
			more := "1\x0034567890"[:n]
			p.Arm(0)
			due(t, p.Append([]byte(more)), api.ErrDown)
			check(t, p, state{was + more, len(k.safe), left - n, true})
			due(t, p.Append([]byte(more)), api.ErrDown)
			check(t, p, state{was + more, len(k.safe), left - n, true})
			p.Crash(99, nil)
			check(t, p, state{was + more, len(was) + n, left - n, false})
		}
	}
}

// P12.3: a Sync at which the power goes makes nothing safe.
func TestArmSync(t *testing.T) {
	for _, k := range kinds {
		p := laid(t, k.room, k.safe, k.loose)
		p.Arm(0)
		due(t, p.Sync(), api.ErrDown)
		check(t, p, state{k.safe + k.loose, len(k.safe), k.room - len(k.safe) - len(k.loose), true})
		p.Crash(0, nil)
		check(t, p, state{k.safe, len(k.safe), k.room - len(k.safe), false})
	}
}

// P12.3: a Trim at which the power goes takes nothing away and makes nothing safe.
func TestArmTrim(t *testing.T) {
	for _, k := range kinds {
		was := k.safe + k.loose
		for n := range len(was) + 1 {
			p := laid(t, k.room, k.safe, k.loose)
			p.Arm(0)
			due(t, p.Trim(n), api.ErrDown)
			check(t, p, state{was, len(k.safe), k.room - len(was), true})
			p.Crash(0, nil)
			check(t, p, state{k.safe, len(k.safe), k.room - len(k.safe), false})
		}
	}
}

// P12.3: calls that are not answered OK aren't counted, nor does the power go at them; nor are the calls that only tell.
func TestArmNotCounted(t *testing.T) {
	for n := range 5 {
		for _, last := range calls {
			p := empty(t, 5)
			p.Arm(n)
			for i := range n + 1 {
				for range 3 {
					due(t, p.Append([]byte("123456")), api.ErrSpace)
					due(t, p.Trim(-1), api.ErrRange)
					due(t, p.Trim(i+1), api.ErrRange)
					check(t, p, state{"abcde"[:i], 0, 5 - i, false})
				}
				if i < n {
					due(t, p.Append([]byte("abcde"[i:i+1])), api.OK)
				}
			}
			due(t, last.do(p), api.ErrDown)
			if !p.Down() {
				t.Fatalf("%d, %s: not down", n, last.name)
			}
		}
	}
}

// P12.3: Arm alone does nothing that can be told, whatever number it is given.
func TestArmAlone(t *testing.T) {
	for _, k := range kinds {
		p := laid(t, k.room, k.safe, k.loose)
		for _, n := range append([]int{-1, 0, 1, 2}, far...) {
			p.Arm(n)
			check(t, p, state{k.safe + k.loose, len(k.safe), k.room - len(k.safe) - len(k.loose), false})
		}
	}
}

// P12.3: with n below 0 it isn't armed, also where it was.
func TestDisarm(t *testing.T) {
	for _, n := range []int{-1, -2, -3, -1 << 31, -1<<32 + 1, -1 << 32, math.MinInt + 1, math.MinInt} {
		for _, was := range []int{-5, -1, 0, 1, 2, math.MaxInt} {
			p := empty(t, 999)
			p.Arm(was)
			p.Arm(n)
			for range 50 {
				for _, c := range calls {
					due(t, c.do(p), api.OK)
				}
			}
		}
	}
}

// P12.3: armed anew, it counts from there on.
func TestArmAnew(t *testing.T) {
	for _, was := range []int{-1, 0, 1, 2, 3, 4, 9, math.MaxInt} {
		for done := range 3 {
			for n := range 6 {
				p := empty(t, 99)
				p.Arm(was)
				if was < 0 || done <= was {
					for range done {
						due(t, p.Append([]byte("a")), api.OK)
					}
				}
				p.Arm(n)
				for range n {
					due(t, p.Append([]byte("b")), api.OK)
				}
				due(t, p.Sync(), api.ErrDown)
				if !p.Down() {
					t.Fatalf("%d %d %d: not down", was, done, n)
				}
			}
		}
	}
}

// P12.3: great numbers are far off.
func TestArmFar(t *testing.T) {
	for _, n := range []int{5000, 1 << 20, 1 << 31, 1 << 32, 1<<32 + 1, 1 << 40, 1 << 62, math.MaxInt - 1, math.MaxInt} {
		p := empty(t, 999)
		p.Arm(n)
		for range 1000 {
			for _, c := range calls {
				due(t, c.do(p), api.OK)
			}
		}
		if n == 5000 {
			due(t, p.Sync(), api.ErrDown)
		}
	}
}

// xored is bytes, each xored with the turn at its place.
func xored(b string, turn []byte) string {
	c := []byte(b)
	for i := range c {
		if i < len(turn) {
			c[i] ^= turn[i]
		}
	}
	return string(c)
}

// turns are lists of bytes: none, fewer than there are bytes, as many and more.
var turns = [][]byte{nil, {}, {0}, {0xf0}, {255, 1}, {0, 0, 3}, {1, 2, 4, 8}, {255, 254, 253, 252, 251}, bytes.Repeat([]byte{0x55}, 1000)}

// P12.4: of the bytes that aren't safe only the first keep are left, turned; all that is left is safe, and the rest is room again. So of a tape that is down, and of one that isn't.
func TestCrash(t *testing.T) {
	for _, k := range kinds {
		for _, keep := range append([]int{-2, -1, 0, 1, 2, 3, 4, 5, 100, api.MaxDisk}, far...) {
			for _, turn := range turns {
				left := k.safe + xored(k.loose[:min(max(keep, 0), len(k.loose))], turn)
				want := state{left, len(left), k.room - len(left), false}
				for _, p := range []*tape.Tape{laid(t, k.room, k.safe, k.loose), off(t, k.room, k.safe, k.loose)} {
					p.Crash(keep, turn)
					check(t, p, want)
					// Now all of it is safe: another crash takes and turns nothing.
					p.Crash(0, []byte{255, 255, 255, 255})
					check(t, p, want)
					rest := "123456789"[:want.room]
					due(t, p.Append([]byte(rest)), api.OK)
					check(t, p, state{left + rest, len(left), 0, false})
				}
			}
		}
	}
}

// P12.4: bytes, written out.
func TestCrashTurns(t *testing.T) {
	for _, c := range []struct {
		keep int
		turn []byte
		left string
	}{
		{-1, []byte{255}, "\x01\x02"}, {0, []byte{255}, "\x01\x02"}, {1, nil, "\x01\x02\x10"}, {1, []byte{1}, "\x01\x02\x11"}, {1, []byte{0x11, 99}, "\x01\x02\x01"},
		{2, []byte{0x10}, "\x01\x02\x00\x20"}, {2, []byte{0, 0xff}, "\x01\x02\x10\xdf"}, {3, []byte{1, 2, 3}, "\x01\x02\x11\x22\x33"}, {4, []byte{0, 0, 0x80, 7}, "\x01\x02\x10\x20\xb0"},
	} {
		p := laid(t, 8, "\x01\x02", "\x10\x20\x30")
		p.Crash(c.keep, c.turn)
		check(t, p, state{c.left, len(c.left), 8 - len(c.left), false})
	}
}

// P12.4: it isn't armed any more, whether it was down or not.
func TestCrashDisarms(t *testing.T) {
	for _, n := range []int{-1, 0, 1, 2, 9, math.MaxInt} {
		for done := range 3 {
			p := empty(t, 999)
			p.Arm(n)
			for range done {
				p.Append([]byte("a"))
			}
			p.Crash(0, nil)
			check(t, p, state{"", 0, 999, false})
			for range 50 {
				for _, c := range calls {
					due(t, c.do(p), api.OK)
				}
			}
			p.Arm(1)
			due(t, p.Sync(), api.OK)
			due(t, p.Sync(), api.ErrDown)
		}
	}
}

// P12.4: Down tells that it is down from the armed call up to the crash.
func TestCrashAgain(t *testing.T) {
	p := empty(t, 6)
	var left string
	for i := range 6 {
		p.Arm(0)
		check(t, p, state{left, i, 6 - i, false})
		due(t, p.Append([]byte("abcdef"[i:])), api.ErrDown)
		check(t, p, state{left + "abcdef"[i:], i, 0, true})
		p.Crash(1, []byte{32})
		left = "ABCDEF"[:i+1]
		check(t, p, state{left, i + 1, 5 - i, false})
	}
}

// P12.4: so of great tapes.
func TestCrashGreat(t *testing.T) {
	half := api.MaxDisk / 2
	safe, loose := bytes.Repeat([]byte("ab"), half/2), bytes.Repeat([]byte("xy"), half/2)
	turn := bytes.Repeat([]byte{1, 2, 3}, half)
	for _, keep := range []int{0, 1, 65535, 65536, half - 1, half, half + 1, math.MaxInt} {
		p := laid(t, api.MaxDisk, string(safe), string(loose))
		p.Crash(keep, turn)
		left := string(safe) + xored(string(loose[:min(keep, half)]), turn)
		check(t, p, state{left, len(left), api.MaxDisk - len(left), false})
	}
}
