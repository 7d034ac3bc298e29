package frame_test

import (
	"bytes"
	"slices"
	"testing"

	"colander/api"
	"colander/frame"
)

// chained are the frames of bodies, one behind the other.
func chained(t *testing.T, list [][]byte) []byte {
	t.Helper()
	var b []byte
	for _, body := range list {
		b = append(b, made(t, body)...)
	}
	return b
}

// P10.3: all frames from the beginning on, and how many bytes they have together.
func TestScan(t *testing.T) {
	checkScan(t, nil, nil, 0)
	checkScan(t, []byte{}, nil, 0)
	checkScan(t, made(t, nil), [][]byte{nil}, 10)
	checkScan(t, made(t, []byte("abc")), [][]byte{[]byte("abc")}, 13)
	for _, list := range [][][]byte{
		{nil, nil}, {[]byte("abc"), []byte("de")}, {nil, []byte("a"), nil, nil, mixed(300), nil}, {mixed(api.MaxFrame), nil, mixed(api.MaxFrame), []byte("b")},
		slices.Repeat([][]byte{nil}, 5000), slices.Repeat([][]byte{{7}}, 5000), bodies(),
	} {
		b := chained(t, list)
		checkScan(t, b, list, len(b))
	}
}

// P10.3: a frame in a body is a part of the body.
func TestScanFrameInBody(t *testing.T) {
	within := chained(t, [][]byte{nil, []byte("abc")})
	list := [][]byte{within, nil, append(made(t, within), 1)}
	b := chained(t, list)
	checkScan(t, b, list, len(b))
}

// P10.3: what isn't right ends it, whichever error Read has of it, and nothing behind it is told.
func TestScanEnds(t *testing.T) {
	good := chained(t, [][]byte{[]byte("xyz"), nil})
	turned := made(t, []byte("abc"))
	turned[11] ^= 1
	for _, bad := range [][]byte{
		{0}, {255}, []byte("CG"), times(0, 10), times(0, 99), laid(0, 2, nil), laid(3, 1, []byte("abc")), turned,
		laid(1<<16+1, 1, nil), laid(1<<31, 1, nil), laid(1<<32-1, 1, nil), laid(1<<32-10, 1, nil), laid(1<<16, 1, nil), laid(1000, 1, nil),
	} {
		if _, _, e := frame.Read(slices.Concat(bad, good)); e == api.OK {
			t.Fatalf("%x is right", bad)
		}
		for _, list := range [][][]byte{nil, {nil}, {[]byte("abc")}, {nil, mixed(300), nil}, slices.Repeat([][]byte{[]byte("a")}, 100)} {
			b := chained(t, list)
			checkScan(t, append(slices.Clone(b), bad...), list, len(b))
			checkScan(t, slices.Concat(b, bad, good), list, len(b))
			checkScan(t, slices.Concat(b, bad, good, bad, good), list, len(b))
		}
	}
}

// P10.3: frames that are cut off at each place.
func TestScanCutOff(t *testing.T) {
	list := [][]byte{nil, []byte("abc"), nil, nil, mixed(30), {0}}
	b := chained(t, list)
	whole, used := 0, 0
	for n := range len(b) + 1 {
		if whole < len(list) && n == used+10+len(list[whole]) {
			used = n
			whole++
		}
		checkScan(t, b[:n], list[:whole], used)
	}
	if whole != len(list) || used != len(b) {
		t.Errorf("%d %d", whole, used)
	}
}

// P10.3: a byte that is turned in a frame's marks, sum or body ends it there, at each place.
func TestScanTurned(t *testing.T) {
	list := [][]byte{[]byte("ab"), nil, mixed(20), []byte("c"), nil}
	b := chained(t, list)
	used := 0
	for place, body := range list {
		for at := range 10 + len(body) {
			if 2 <= at && at < 6 {
				continue
			}
			for _, turn := range []byte{1, 2, 128, 255} {
				turned := bytes.Clone(b)
				turned[used+at] ^= turn
				checkScan(t, turned, list[:place], used)
			}
		}
		used += 10 + len(body)
	}
}

// P10.3: so does a length that is turned, as far as the frame isn't right with it.
func TestScanTurnedLengths(t *testing.T) {
	one, list := []byte("ab"), [][]byte{[]byte("ab")}
	for length := range uint32(300) {
		b := slices.Concat(made(t, one), laid(length, uint32(frame.Sum(one)), one), made(t, one))
		if length != 2 {
			checkScan(t, b, list, 12)
		} else {
			checkScan(t, b, [][]byte{one, one, one}, 36)
		}
	}
	for _, length := range bigLengths {
		checkScan(t, slices.Concat(made(t, one), laid(length, uint32(frame.Sum(one)), one), made(t, one)), list, 12)
	}
}

// P10.3: Scan tells what Read tells from place to place.
func TestScanByRead(t *testing.T) {
	list := bodies()
	b := chained(t, list)
	at := 0
	for _, body := range list {
		checkRead(t, b[at:], body, 10+len(body))
		at += 10 + len(body)
	}
	checkRefused(t, b[at:], api.ErrEnd)
	checkScan(t, b, list, at)
}
