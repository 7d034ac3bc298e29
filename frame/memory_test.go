package frame_test

import (
	"bytes"
	"slices"
	"testing"

	"colander/api"
	"colander/frame"
)

// roomy is bytes with spare room behind them, and all that they lie in.
func roomy(b []byte) (part, room []byte) {
	room = append(bytes.Clone(b), 77, 77, 77)
	return room[:len(b)], room
}

// spoil writes over a list and all its spare room.
func spoil[T any](list []T, with T) {
	for i := range list[:cap(list)] {
		list[:cap(list)][i] = with
	}
}

// Rules that hold everywhere: what Sum and Make are handed is neither changed nor kept, and what Make answers is new memory.
func TestMakeMemory(t *testing.T) {
	for _, want := range [][]byte{{}, {1}, []byte("abc"), mixed(300), mixed(api.MaxFrame)} {
		body, room := roomy(want)
		was := bytes.Clone(room)
		sum := frame.Sum(body)
		one, two := made(t, body), made(t, body)
		spoil(one, 88)
		if frame.Sum(body) != sum || !bytes.Equal(room, was) {
			t.Fatalf("%.20x: changed, or shared", room)
		}
		spoil(room, 99)
		checkRead(t, two, want, 10+len(want))
		checkRead(t, made(t, want), want, 10+len(want))
	}
}

// Rules that hold everywhere: so of a body that is refused.
func TestRefusedMemory(t *testing.T) {
	body, room := roomy(mixed(api.MaxFrame + 1))
	was := bytes.Clone(room)
	if b, e := frame.Make(body); e != api.ErrBig || len(b) != 0 || !bytes.Equal(room, was) {
		t.Errorf("%d bytes, %d", len(b), e)
	}
	for _, b := range [][]byte{nil, []byte("CF"), times(0, 12), laid(1<<16+1, 1, nil), laid(5, 1, nil), laid(0, 2, nil)} {
		b, room := roomy(b)
		was := bytes.Clone(room)
		frame.Read(b)
		frame.Scan(b)
		if !bytes.Equal(room, was) {
			t.Errorf("%x, not %x", room, was)
		}
	}
}

// Rules that hold everywhere: so for Read.
func TestReadMemory(t *testing.T) {
	for _, want := range [][]byte{{}, {1}, []byte("abc"), mixed(300), mixed(api.MaxFrame)} {
		b, room := roomy(made(t, want))
		was := bytes.Clone(room)
		one, _, _ := frame.Read(b)
		two, _, _ := frame.Read(b)
		spoil(one, 88)
		if !bytes.Equal(room, was) || !bytes.Equal(two, want) {
			t.Fatalf("%.20x %.20x: changed, or shared", room, two)
		}
		checkRead(t, b, want, len(b))
		spoil(room, 99)
		if !bytes.Equal(two, want) {
			t.Fatalf("%.20x: shared with what was handed in", two)
		}
	}
}

// Rules that hold everywhere: so for Scan, whose bodies share nothing with one another, nor with another answer's.
func TestScanMemory(t *testing.T) {
	for _, want := range [][][]byte{nil, {nil}, {nil, nil, nil}, {[]byte("abc")}, {[]byte("abc"), nil, []byte("d"), mixed(300)}, slices.Repeat([][]byte{[]byte("ab")}, 100)} {
		b, room := roomy(chained(t, want))
		was := bytes.Clone(room)
		one, _ := frame.Scan(b)
		two, used := frame.Scan(b)
		for place := range one {
			spoil(one[place], 88)
			for later := place + 1; later < len(one); later++ {
				if !bytes.Equal(one[later], want[later]) {
					t.Fatalf("the body %d shares with the body %d", later, place)
				}
			}
		}
		spoil(one, []byte("x"))
		if !bytes.Equal(room, was) {
			t.Fatalf("%.20x: changed, or shared", room)
		}
		spoil(room, 99)
		if used != len(b) || !slices.EqualFunc(two, want, bytes.Equal) {
			t.Fatalf("%d bodies, %d: shared with what was handed in, or with another answer", len(two), used)
		}
	}
}
