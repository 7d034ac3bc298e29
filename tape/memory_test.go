package tape_test

import (
	"bytes"
	"testing"

	"colander/api"
	"colander/tape"
)

// roomy is bytes with spare room behind them, and all that they lie in.
func roomy(b string) (part, room []byte) {
	room = append([]byte(b), 77, 77, 77)
	return room[:len(b)], room
}

// spoil writes over a list and all its spare room.
func spoil(list []byte) {
	for i := range list[:cap(list)] {
		list[:cap(list)][i] = 88
	}
}

// Rules that hold everywhere: what Append is handed is neither changed nor kept, its spare room neither, also where it is refused.
func TestAppendMemory(t *testing.T) {
	for _, armed := range []bool{false, true} {
		p := laid(t, 9, "abc", "xy")
		if armed {
			p.Arm(0)
		}
		part, room := roomy("12")
		p.Append(part)
		check(t, p, state{"abcxy12", 3, 2, armed})
		spoil(room)
		check(t, p, state{"abcxy12", 3, 2, armed})
		if p.Crash(9, bytes.Repeat([]byte{1}, 9)); !bytes.Equal(room[:5], []byte{88, 88, 88, 88, 88}) {
			t.Fatalf("%v: kept", room)
		}
	}
	for _, p := range []*tape.Tape{laid(t, 6, "abc", "xy"), off(t, 9, "abc", "xy"), empty(t, 0)} {
		part, room := roomy("12")
		if e := p.Append(part); e == api.OK || !bytes.Equal(room, []byte{'1', '2', 77, 77, 77}) {
			t.Fatalf("%d, %v", e, room)
		}
	}
}

// Rules that hold everywhere: bytes that an empty tape is handed as its first are no different.
func TestFirstAppendMemory(t *testing.T) {
	p := empty(t, 9)
	part, room := roomy("12")
	due(t, p.Append(part), api.OK)
	due(t, p.Append([]byte("34")), api.OK)
	if !bytes.Equal(room, []byte{'1', '2', 77, 77, 77}) {
		t.Fatalf("%v: changed", room)
	}
	p.Crash(4, []byte{1, 1, 1, 1})
	if !bytes.Equal(room, []byte{'1', '2', 77, 77, 77}) {
		t.Fatalf("%v: changed", room)
	}
	spoil(room)
	check(t, p, state{"0325", 4, 5, false})
}

// Rules that hold everywhere: two tapes that are handed the same bytes share none.
func TestTwoTapesMemory(t *testing.T) {
	one, two := empty(t, 9), empty(t, 9)
	part, _ := roomy("12")
	due(t, one.Append(part), api.OK)
	due(t, two.Append(part), api.OK)
	due(t, one.Append([]byte("3")), api.OK)
	due(t, two.Append([]byte("4")), api.OK)
	one.Crash(3, []byte{16, 16, 16})
	check(t, one, state{"!\"#", 3, 6, false})
	check(t, two, state{"124", 0, 6, false})
}

// Rules that hold everywhere: what Bytes tells is new memory, spare room too.
func TestBytesMemory(t *testing.T) {
	for _, k := range kinds {
		was := k.safe + k.loose
		for _, p := range []*tape.Tape{laid(t, k.room, k.safe, k.loose), off(t, k.room, k.safe, k.loose)} {
			want := state{was, len(k.safe), k.room - len(was), p.Down()}
			one, two := p.Bytes(), p.Bytes()
			spoil(one)
			if string(two) != was {
				t.Fatalf("%q, not %q: shared with another answer", two, was)
			}
			check(t, p, want)
			_ = append(two, "!!!!!!!!!"...)
			check(t, p, want)
		}
	}
}

// Rules that hold everywhere: what was told stays, whatever is done with the tape, its room behind the bytes too.
func TestToldStays(t *testing.T) {
	p := laid(t, 9, "abc", "xy")
	told := p.Bytes()
	room := bytes.Clone(told[:cap(told)])
	due(t, p.Append([]byte("12")), api.OK)
	p.Crash(3, []byte{1, 1, 1})
	check(t, p, state{"abcyx0", 6, 3, false})
	due(t, p.Trim(1), api.OK)
	due(t, p.Append([]byte("3456")), api.OK)
	p.Arm(0)
	due(t, p.Append([]byte("7")), api.ErrDown)
	if string(told) != "abcxy" || !bytes.Equal(told[:cap(told)], room) {
		t.Fatalf("%q", told)
	}
}

// Rules that hold everywhere: what is told can be handed in again, to the same tape too.
func TestToldHandedIn(t *testing.T) {
	p := laid(t, 99, "ab", "xy")
	told := p.Bytes()
	due(t, p.Append(told), api.OK)
	check(t, p, state{"abxyabxy", 2, 91, false})
	p.Crash(3, told)
	check(t, p, state{"ab" + xored("xya", []byte("abxy")), 5, 94, false})
	if string(told) != "abxy" {
		t.Fatalf("%q", told)
	}
	due(t, p.Append(p.Bytes()[1:3]), api.OK)
	check(t, p, state{"ab" + xored("xya", []byte("abxy")) + "b" + xored("x", []byte("a")), 5, 92, false})
}

// Rules that hold everywhere: the turn is neither changed nor kept, its spare room neither.
func TestCrashMemory(t *testing.T) {
	for _, k := range kinds {
		for _, n := range []int{0, 1, 2, 3, 9} {
			p := off(t, k.room, k.safe, k.loose)
			part, room := roomy("\x01\x02\x04\x08\x10\x20\x40\x80\xff"[:n])
			was := bytes.Clone(room)
			left := k.safe + xored(k.loose, part)
			p.Crash(9, part)
			check(t, p, state{left, len(left), k.room - len(left), false})
			due(t, p.Append(make([]byte, k.room-len(left))), api.OK)
			p.Crash(9, []byte{255, 255, 255})
			if !bytes.Equal(room, was) {
				t.Fatalf("%x, not %x", room, was)
			}
			now := string(p.Bytes())
			spoil(room)
			if string(p.Bytes()) != now {
				t.Fatal("kept")
			}
		}
	}
}
