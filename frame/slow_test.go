package frame_test

import (
	"bytes"
	"encoding/binary"
	"hash/adler32"
	"math/rand"
	"slices"
	"testing"

	"colander/api"
	"colander/frame"
)

// What follows is the chapter a second time: the sum by how often each byte counts, and by the library; frames by a reader of numbers.

// slowSum reckons each byte by how many bytes are from it on, and takes the modulus at the end alone.
func slowSum(b []byte) int {
	first, second := 1, len(b)
	for i, c := range b {
		first += int(c)
		second += (len(b) - i) * int(c)
	}
	return second%65521*65536 + first%65521
}

// head is what stands ahead of a body.
type head struct {
	First, Second byte
	Length, Sum   uint32
}

// slowRead asks what is due, the last error first, so that those that are named ahead of others take their place.
func slowRead(b []byte) (body []byte, size int, e api.Errno) {
	h := head{}
	if n, err := binary.Decode(b, binary.BigEndian, &h); err != nil || n != 10 {
		return nil, 0, api.ErrEnd
	}
	end := 10 + int64(h.Length)
	if int64(len(b)) >= end && adler32.Checksum(b[10:end]) != h.Sum {
		e = api.ErrSum
	}
	if int64(len(b)) < end {
		e = api.ErrEnd
	}
	if h.Length > 65536 {
		e = api.ErrBig
	}
	if h.First != 'C' || h.Second != 'F' {
		e = api.ErrForm
	}
	if e != api.OK {
		return nil, 0, e
	}
	return b[10:end], int(end), e
}

// slowScan takes off one frame after the other.
func slowScan(b []byte) (list [][]byte, used int) {
	for rest := b; ; rest = b[used:] {
		body, size, e := slowRead(rest)
		if e != api.OK {
			return list, used
		}
		list, used = append(list, body), used+size
	}
}

// checkSlow holds all calls against the second way.
func checkSlow(t *testing.T, b []byte) api.Errno {
	t.Helper()
	want, size, due := slowRead(b)
	got, n, e := frame.Read(b)
	if e != due || n != size || !bytes.Equal(got, want) {
		t.Fatalf("%d bytes, %.40x: %.20x %d %d, not %.20x %d %d", len(b), b, got, n, e, want, size, due)
	}
	list, used := slowScan(b)
	checkScan(t, b, list, used)
	return e
}

// P10.1: all lists of up to four edge bytes, and long ones from everywhere, against the second way and the library.
func TestSumSlow(t *testing.T) {
	lists := [][]byte{{}}
	for at := 0; at < len(lists) && len(lists[at]) < 4; at++ {
		for _, c := range []byte{0, 1, 2, 127, 128, 254, 255} {
			lists = append(lists, append(slices.Clone(lists[at]), c))
		}
	}
	r := rand.New(rand.NewSource(1))
	for n := range 600 {
		b := make([]byte, n*n/3)
		r.Read(b)
		lists = append(lists, b)
	}
	for _, b := range lists {
		want := slowSum(b)
		if got := frame.Sum(b); got != want || got != int(adler32.Checksum(b)) {
			t.Fatalf("%d bytes, %.20x: %x, not %x", len(b), b, got, want)
		}
	}
}

// P10.2, P10.3: heads of edge bytes, with what may stand behind them.
func TestHeadsSlow(t *testing.T) {
	edges := []byte{0, 1, 2, 3, 127, 128, 255}
	many := map[api.Errno]int{}
	for _, marks := range []string{"CF", "CG", "BF", "FC"} {
		for _, high := range edges {
			for _, next := range edges {
				for _, third := range edges {
					for _, low := range edges {
						length := binary.BigEndian.Uint32([]byte{high, next, third, low})
						for _, body := range [][]byte{nil, []byte("ab"), times(0, 259)} {
							for _, some := range []uint32{0, 1, 2, 259} {
								b := laid(length, adler32.Checksum(body[:min(int(some), len(body))]), body)
								copy(b, marks)
								many[checkSlow(t, b)]++
							}
						}
					}
				}
			}
		}
	}
	for _, e := range []api.Errno{api.OK, api.ErrForm, api.ErrBig, api.ErrEnd, api.ErrSum} {
		if many[e] < 10 {
			t.Errorf("%d: %d times only", e, many[e])
		}
	}
}

// grown are frames one behind the other, with some faults.
func grown(r *rand.Rand) []byte {
	var b []byte
	for range r.Intn(5) {
		body := make([]byte, r.Intn(40))
		r.Read(body)
		one, _ := frame.Make(body)
		switch r.Intn(12) {
		case 0:
			one[r.Intn(len(one))] ^= 1 << r.Intn(8)
		case 1:
			one = one[:r.Intn(len(one))]
		case 2:
			one = append(one, byte(r.Intn(256)))
		case 3:
			copy(one[2:], binary.BigEndian.AppendUint32(nil, bigLengths[r.Intn(len(bigLengths))]))
		}
		b = append(b, one...)
	}
	return b
}

// P10.2, P10.3, P1: grown frames with faults, and bytes from everywhere.
func TestGrownSlow(t *testing.T) {
	r := rand.New(rand.NewSource(2))
	many := map[api.Errno]int{}
	for range 100000 {
		many[checkSlow(t, grown(r))]++
		b := make([]byte, r.Intn(30))
		r.Read(b)
		copy(b, "CF\x00\x00\x00"[:r.Intn(6)])
		many[checkSlow(t, b)]++
	}
	for _, e := range []api.Errno{api.OK, api.ErrForm, api.ErrBig, api.ErrEnd, api.ErrSum} {
		if many[e] < 100 {
			t.Errorf("%d: %d times only", e, many[e])
		}
	}
}

// P10.1 to P10.3: Read and Scan give back what Make was given, of bodies of all lengths up to 2000 and of some up to MaxFrame.
func TestThereAndBack(t *testing.T) {
	r := rand.New(rand.NewSource(3))
	for n := 0; n <= api.MaxFrame; n += 1 + n/2000*97 {
		body := make([]byte, n)
		r.Read(body)
		b := made(t, body)
		checkRead(t, b, body, 10+n)
		checkScan(t, slices.Concat(b, b), [][]byte{body, body}, 20+2*n)
	}
}
