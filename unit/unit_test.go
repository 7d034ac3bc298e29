package unit_test

import (
	"bytes"
	"math"
	"slices"
	"testing"

	"colander/api"
	"colander/unit"
)

// isCharacter is the document's words, apart from the library.
func isCharacter(c int) bool {
	return c >= 0 && c <= 0x10ffff && (c < 0xd800 || c > 0xdfff)
}

// encode writes a character as the document spells it, so that the tests do not lean on the library that the package uses.
func encode(c int) []byte {
	low := func(shift int) byte { return byte(0x80 | c>>shift&0x3f) }
	switch {
	case c < 0x80:
		return []byte{byte(c)}
	case c < 0x800:
		return []byte{byte(0xc0 | c>>6), low(0)}
	case c < 0x10000:
		return []byte{byte(0xe0 | c>>12), low(6), low(0)}
	}
	return []byte{byte(0xf0 | c>>18), low(12), low(6), low(0)}
}

// refNext tries each number of bytes: a character begins just where its own bytes stand.
func refNext(b []byte) (int, int) {
	heads := [4]int{0x7f, 0x1f, 0x0f, 0x07}
	for n := 1; n <= 4 && n <= len(b); n++ {
		c := int(b[0]) & heads[n-1]
		for _, x := range b[1:n] {
			c = c<<6 | int(x)&0x3f
		}
		if isCharacter(c) && bytes.Equal(encode(c), b[:n]) {
			return c, n
		}
	}
	return 0x110000 + int(b[0]), 1
}

func refSplit(b []byte) []int {
	var units []int
	for len(b) > 0 {
		u, n := refNext(b)
		units = append(units, u)
		b = b[n:]
	}
	return units
}

// edgeTexts are all texts of up to four bytes from those at which the form of a character's bytes changes.
func edgeTexts() [][]byte {
	edges := []byte{0, 'a', 0x7f, 0x80, 0x8f, 0x90, 0x9f, 0xa0, 0xbf, 0xc0, 0xc1, 0xc2, 0xdf, 0xe0, 0xe1, 0xec, 0xed, 0xee, 0xef, 0xf0, 0xf1, 0xf3, 0xf4, 0xf5, 0xf8, 0xff}
	texts := [][]byte{nil}
	last := texts
	for range 4 {
		var longer [][]byte
		for _, text := range last {
			for _, x := range edges {
				longer = append(longer, append(slices.Clone(text), x))
			}
		}
		texts = append(texts, longer...)
		last = longer
	}
	return texts
}

// P1.1.
func TestNext(t *testing.T) {
	b := []byte("a\u00e9\xff\u20ac\U0001f600")
	for _, c := range []struct{ at, unit, size int }{
		{0, 0x61, 1}, {1, 0xe9, 2}, {2, 0x1100a9, 1}, {3, 0x1100ff, 1}, {4, 0x20ac, 3}, {5, 0x110082, 1}, {6, 0x1100ac, 1},
		{7, 0x1f600, 4}, {8, 0x11009f, 1}, {9, 0x110098, 1}, {10, 0x110080, 1},
	} {
		if u, n := unit.Next(b, c.at); u != c.unit || n != c.size {
			t.Errorf("at %d: %x %d, not %x %d", c.at, u, n, c.unit, c.size)
		}
	}
}

// P1.1: places outside the bytes.
func TestNextOutside(t *testing.T) {
	b := []byte("a\u00e9b")
	for _, at := range []int{-1, math.MinInt, len(b), len(b) + 1, math.MaxInt} {
		if u, n := unit.Next(b, at); u != 0 || n != 0 {
			t.Errorf("at %d: %x %d", at, u, n)
		}
	}
	// A byte that is no more than spare room isn't there.
	if u, n := unit.Next(b[:1], 1); u != 0 || n != 0 {
		t.Errorf("in the spare room: %x %d", u, n)
	}
	if u, n := unit.Next(b[:2], 1); u != 0x1100c3 || n != 1 {
		t.Errorf("a character cut off: %x %d", u, n)
	}
	for _, none := range [][]byte{nil, {}} {
		for _, at := range []int{-1, 0, 1} {
			if u, n := unit.Next(none, at); u != 0 || n != 0 {
				t.Errorf("of nothing at %d: %x %d", at, u, n)
			}
		}
	}
}

// P1.1: the examples, and the ends of what a character may be.
func TestSplit(t *testing.T) {
	for _, c := range []struct {
		text string
		want []int
	}{
		{"", nil},
		{"a\xc3\xa9\xff", []int{0x61, 0xe9, 0x1100ff}},
		{"\xc0\x80", []int{0x1100c0, 0x110080}},
		{"\x00\x7f", []int{0, 0x7f}},
		{"\x80", []int{0x110080}},
		{"\xc1\xbf\xc2\x80", []int{0x1100c1, 0x1100bf, 0x80}},
		{"\xdf\xbf\xe0\xa0\x80", []int{0x7ff, 0x800}},
		{"\xe0\x9f\xbf", []int{0x1100e0, 0x11009f, 0x1100bf}},
		{"\xed\x9f\xbf\xee\x80\x80", []int{0xd7ff, 0xe000}},
		{"\xed\xa0\x80", []int{0x1100ed, 0x1100a0, 0x110080}},
		{"\xed\xbf\xbf", []int{0x1100ed, 0x1100bf, 0x1100bf}},
		{"\xef\xbf\xbd", []int{0xfffd}},
		{"\xef\xbf\xbf\xf0\x90\x80\x80", []int{0xffff, 0x10000}},
		{"\xf0\x8f\xbf\xbf", []int{0x1100f0, 0x11008f, 0x1100bf, 0x1100bf}},
		{"\xf4\x8f\xbf\xbf", []int{0x10ffff}},
		{"\xf4\x90\x80\x80", []int{0x1100f4, 0x110090, 0x110080, 0x110080}},
		{"\xf8\x88\x80\x80\x80", []int{0x1100f8, 0x110088, 0x110080, 0x110080, 0x110080}},
		{"\xe2\x82", []int{0x1100e2, 0x110082}},
		{"\xe2\x82a\xf0\x9f\x98\xc3\xa9", []int{0x1100e2, 0x110082, 0x61, 0x1100f0, 0x11009f, 0x110098, 0xe9}},
	} {
		if got := unit.Split([]byte(c.text)); !slices.Equal(got, c.want) {
			t.Errorf("%q: %x, not %x", c.text, got, c.want)
		}
	}
}

// P1.1, P1.3: each text of edges, held against the document's own words.
func TestSplitEdges(t *testing.T) {
	for _, b := range edgeTexts() {
		got := unit.Split(b)
		if want := refSplit(b); !slices.Equal(got, want) {
			t.Fatalf("%x: %x, not %x", b, got, want)
		}
		for at := range b {
			u, n := unit.Next(b, at)
			if wantU, wantN := refNext(b[at:]); u != wantU || n != wantN {
				t.Fatalf("%x at %d: %x %d, not %x %d", b, at, u, n, wantU, wantN)
			}
		}
		for _, u := range got {
			if !unit.Right(u) || unit.Stray(u) != (u >= 0x110000) {
				t.Fatalf("%x: the unit %x isn't right, or no stray", b, u)
			}
		}
		back, e := unit.Join(got)
		if e != api.OK || !bytes.Equal(back, b) {
			t.Fatalf("%x: joined %x %d", b, back, e)
		}
	}
}

// P1.1, P1.2: each number around and among the units.
func TestEachNumber(t *testing.T) {
	for u := -2; u <= 0x110200; u++ {
		stray := u >= 0x110080 && u <= 0x1100ff
		right := stray || isCharacter(u)
		if unit.Right(u) != right || unit.Stray(u) != stray {
			t.Fatalf("%x: %t %t", u, unit.Right(u), unit.Stray(u))
		}
		b, e := unit.Join([]int{u})
		if !right {
			if e != api.ErrForm || len(b) != 0 {
				t.Fatalf("%x: joined %x %d", u, b, e)
			}
			continue
		}
		want := []byte{byte(u - 0x110000)}
		if !stray {
			want = encode(u)
		}
		if e != api.OK || !bytes.Equal(b, want) {
			t.Fatalf("%x: joined %x %d", u, b, e)
		}
		if got := unit.Split(want); len(got) != 1 || got[0] != u {
			t.Fatalf("%x: split %x", u, got)
		}
	}
}

// P1.2: numbers that would be units if they were cut to fewer bits.
func TestFarNumbers(t *testing.T) {
	for _, u := range []int{math.MinInt, math.MinInt + 'a', -1 << 32, 'a' - 1<<32, -0x110080, 1 << 31, 1 << 32, 1<<32 + 'a', 1<<32 + 0x110080, 1 << 40, math.MaxInt} {
		if unit.Right(u) || unit.Stray(u) {
			t.Errorf("%x is right, or a stray", u)
		}
		if b, e := unit.Join([]int{'a', u}); e != api.ErrForm || len(b) != 0 {
			t.Errorf("%x: joined %x %d", u, b, e)
		}
	}
}

// P1.2.
func TestJoin(t *testing.T) {
	for _, c := range []struct {
		units []int
		want  string
		e     api.Errno
	}{
		{nil, "", api.OK},
		{[]int{}, "", api.OK},
		{[]int{0x61, 0xe9, 0x20ac, 0x1f600, 0x1100ff}, "a\xc3\xa9\xe2\x82\xac\xf0\x9f\x98\x80\xff", api.OK},
		{[]int{0, 0xfffd, 0x110080}, "\x00\xef\xbf\xbd\x80", api.OK},
		{[]int{-1, 0x61}, "", api.ErrForm},
		{[]int{0x61, 0xd800, 0x61}, "", api.ErrForm},
		{[]int{0x61, 0x110061}, "", api.ErrForm},
		{[]int{0x1100ff, 0x110100}, "", api.ErrForm},
	} {
		b, e := unit.Join(c.units)
		if e != c.e || string(b) != c.want {
			t.Errorf("%x: %x %d, not %x %d", c.units, b, e, c.want, c.e)
		}
	}
}

// P1.3: what is joined need not be split again as it was.
func TestStraysComeTogether(t *testing.T) {
	b, e := unit.Join([]int{0x1100c3, 0x1100a9})
	if e != api.OK || string(b) != "\xc3\xa9" {
		t.Fatalf("%x %d", b, e)
	}
	if got := unit.Split(b); !slices.Equal(got, []int{0xe9}) {
		t.Errorf("%x", got)
	}
}

// P1.3: bytes of all kinds, one behind the other.
func TestJoinOfSplit(t *testing.T) {
	b := make([]byte, 1<<16)
	x := uint32(1)
	for i := range b {
		x = x*1664525 + 1013904223
		b[i] = byte(x >> 24)
	}
	for _, text := range [][]byte{b, b[1:], bytes.Repeat([]byte("\xe2\x82\xac\xe2\x82"), 1000)} {
		back, e := unit.Join(unit.Split(text))
		if e != api.OK || !bytes.Equal(back, text) {
			t.Errorf("%d bytes come back as %d, %d", len(text), len(back), e)
		}
	}
}

// Rules that hold everywhere: what is handed in stays, and answers are new memory.
func TestMemory(t *testing.T) {
	room := []byte("a\xc3\xa9\xffrest")
	b := room[:4]
	first, second := unit.Split(b), unit.Split(b)
	if string(room) != "a\xc3\xa9\xffrest" {
		t.Fatalf("Split changed %q", room)
	}
	b[0] = 'z'
	first[1] = 7
	_ = append(first, 8)
	if !slices.Equal(second, []int{0x61, 0xe9, 0x1100ff}) {
		t.Errorf("%x", second)
	}

	spare := []int{0x61, 0xe9, 1, 2}
	units := spare[:2]
	one, _ := unit.Join(units)
	two, _ := unit.Join(units)
	if !slices.Equal(spare, []int{0x61, 0xe9, 1, 2}) {
		t.Fatalf("Join changed %x", spare)
	}
	units[0] = 'z'
	one[0] = 'y'
	_ = append(one, 'x')
	if string(two) != "a\xc3\xa9" {
		t.Errorf("%q", two)
	}
}
