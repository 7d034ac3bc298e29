package frame_test

import (
	"bytes"
	"encoding/binary"
	"encoding/hex"
	"slices"
	"strings"
	"testing"

	"colander/api"
	"colander/frame"
)

// laid is bytes like a frame's, with the length and the sum that they are given, right or not.
func laid(length, sum uint32, body []byte) []byte {
	b := binary.BigEndian.AppendUint32([]byte{0x43, 0x46}, length)
	return append(binary.BigEndian.AppendUint32(b, sum), body...)
}

// made is the frame of a body that has one.
func made(t *testing.T, body []byte) []byte {
	t.Helper()
	b, e := frame.Make(body)
	if e != api.OK {
		t.Fatalf("%d bytes: %d", len(body), e)
	}
	return b
}

// times is a byte, so many times.
func times(c byte, n int) []byte { return bytes.Repeat([]byte{c}, n) }

// mixed is so many bytes that aren't like their neighbours.
func mixed(n int) []byte {
	b := make([]byte, n)
	for i := range b {
		b[i] = byte(i*167 + i/256*31 + 5)
	}
	return b
}

// checkRead holds what Read tells of bytes against the body and the size that are due.
func checkRead(t *testing.T, b, body []byte, size int) {
	t.Helper()
	if got, n, e := frame.Read(b); e != api.OK || n != size || !bytes.Equal(got, body) {
		t.Fatalf("%d bytes, %.20x: %.20x %d %d, not %.20x %d", len(b), b, got, n, e, body, size)
	}
}

// checkRefused holds the error that Read is due to have, and that there is nothing beside it.
func checkRefused(t *testing.T, b []byte, want api.Errno) {
	t.Helper()
	if got, n, e := frame.Read(b); e != want || n != 0 || len(got) != 0 {
		t.Fatalf("%d bytes, %.20x: %.20x %d %d, not %d", len(b), b, got, n, e, want)
	}
}

// checkScan holds what Scan tells of bytes against the bodies and the number that are due.
func checkScan(t *testing.T, b []byte, bodies [][]byte, used int) {
	t.Helper()
	if got, n := frame.Scan(b); n != used || !slices.EqualFunc(got, bodies, bytes.Equal) {
		t.Fatalf("%d bytes, %.20x: %d bodies, %d, not %d bodies, %d", len(b), b, len(got), n, len(bodies), used)
	}
}

// The chapter's examples.
func TestExamples(t *testing.T) {
	if got := frame.Sum([]byte("abc")); got != 0x024d0127 {
		t.Errorf("%x", got)
	}
	if got := made(t, nil); !bytes.Equal(got, []byte{0x43, 0x46, 0, 0, 0, 0, 0, 0, 0, 1}) {
		t.Errorf("%x", got)
	}
}

// P10.1: sums that are reckoned by hand, and that are known; of nothing it is 1.
func TestSum(t *testing.T) {
	for _, c := range []struct {
		b    []byte
		want int
	}{
		{nil, 1}, {[]byte{}, 1}, {[]byte{0}, 0x00010001}, {[]byte{1}, 0x00020002}, {[]byte{255}, 0x01000100}, {[]byte{128}, 0x00810081}, {[]byte{0, 0}, 0x00020001},
		{[]byte("a"), 0x00620062}, {[]byte("abc"), 0x024d0127}, {[]byte("cba"), 0x02510127}, {[]byte("Wikipedia"), 0x11e60398}, {[]byte{1, 2}, 0x00060004}, {[]byte{2, 1}, 0x00070004},
		// The second number goes just to the modulus, and beyond it again, while the first one stays at 1.
		{times(0, 65520), 0xfff00001}, {times(0, 65521), 1}, {times(0, 65522), 0x00010001}, {times(0, 2*65521), 1}, {times(0, 3*65521+7), 0x00070001}, {times(0, 0x8000), 0x80000001},
	} {
		if got := frame.Sum(c.b); got != c.want {
			t.Errorf("%d bytes, %.20x: %x, not %x", len(c.b), c.b, got, c.want)
		}
	}
}

// P10.1: sums of equal bytes, whose numbers have plain formulas; both go beyond 65521 many times.
func TestSumFarBeyond(t *testing.T) {
	for _, n := range []int{1, 255, 256, 257, 258, 513, 514, 5552, 5553, 65520, 65521, 65522, 1 << 16, 1<<16 + 1, 1 << 20, 1<<22 + 3} {
		for _, c := range []int{0, 1, 127, 128, 240, 254, 255} {
			first := (1 + n*c) % 65521
			second := (n + c*(n*(n+1)/2)) % 65521
			if got := frame.Sum(times(byte(c), n)); got != second*65536+first {
				t.Errorf("%d times %d: %x, not %x", n, c, got, second*65536+first)
			}
		}
	}
}

// P10.1: the first number is just below the modulus, at it, and beyond it.
func TestSumAtModulus(t *testing.T) {
	for last, want := range map[byte]int{238: 65519, 239: 65520, 240: 0, 241: 1, 255: 15} {
		if got := frame.Sum(append(times(255, 256), last)); got%65536 != want {
			t.Errorf("%d: %x", last, got)
		}
	}
}

// P10.1: frames, byte by byte.
func TestMake(t *testing.T) {
	for body, want := range map[string]string{
		"":                         "4346 00000000 00000001",
		"\x00":                     "4346 00000001 00010001 00",
		"a":                        "4346 00000001 00620062 61",
		"abc":                      "4346 00000003 024d0127 616263",
		"\xff\x00":                 "4346 00000002 02000100 ff00",
		"Wikipedia":                "4346 00000009 11e60398 57696b697065646961",
		"CF\x00\x00":               "4346 00000004 01e2008a 43460000",
		strings.Repeat("\x00", 10): "4346 0000000a 000a0001 00000000000000000000",
	} {
		want = strings.ReplaceAll(want, " ", "")
		if got := hex.EncodeToString(made(t, []byte(body))); got != want {
			t.Errorf("%q: %s, not %s", body, got, want)
		}
	}
}

// P10.1: the length is in four bytes, the highest first, at each edge of a byte; a body of just MaxFrame bytes has a frame.
func TestMakeLengths(t *testing.T) {
	for n, want := range map[int]string{
		1: "00000001", 127: "0000007f", 128: "00000080", 255: "000000ff", 256: "00000100", 257: "00000101", 0x7fff: "00007fff", 0x8000: "00008000",
		0xff00: "0000ff00", 65520: "0000fff0", 65521: "0000fff1", 65535: "0000ffff", api.MaxFrame: "00010000",
	} {
		body := mixed(n)
		b := made(t, body)
		head := b[:min(10, len(b))]
		if len(b) != 10+n || hex.EncodeToString(head[:6]) != "4346"+want || int(binary.BigEndian.Uint32(head[6:])) != frame.Sum(body) || !bytes.Equal(b[10:], body) {
			t.Errorf("%d: %d bytes, %x", n, len(b), head)
		}
	}
}

// P10.1: ErrBig of a body of more than MaxFrame bytes, and no frame beside it.
func TestMakeErrBig(t *testing.T) {
	for _, n := range []int{api.MaxFrame + 1, api.MaxFrame + 2, 2 * api.MaxFrame, 2*api.MaxFrame + 1, 1 << 20, 1 << 24} {
		if b, e := frame.Make(times(1, n)); e != api.ErrBig || len(b) != 0 {
			t.Errorf("%d: %d bytes, %d", n, len(b), e)
		}
	}
}

// bodies are some that have frames, of all kinds of lengths.
func bodies() [][]byte {
	list := [][]byte{nil, {0}, {255}, []byte("abc"), []byte("CF"), {0x43, 0x46, 0, 0, 0, 0, 0, 0, 0, 1}}
	for _, n := range []int{9, 10, 11, 127, 128, 255, 256, 257, 300, 0x8000, 0xff80, 65520, 65521, 65535, api.MaxFrame} {
		list = append(list, mixed(n), times(255, n), times(0, n))
	}
	return list
}

// P10.2: the body and the frame's size, whatever stands behind the frame.
func TestRead(t *testing.T) {
	for _, body := range bodies() {
		b := made(t, body)
		for _, behind := range [][]byte{nil, {0}, {255}, {0x43}, []byte("CF"), []byte("CG"), laid(0, 1, nil), laid(0, 2, nil), laid(1<<31, 1, nil), b, mixed(999)} {
			checkRead(t, slices.Concat(b, behind), body, 10+len(body))
		}
	}
}

// P10.2: sums whose highest byte is 128 or more are sums too.
func TestReadGreatSums(t *testing.T) {
	for _, c := range []struct {
		sum  uint32
		body []byte
	}{{0x80000001, times(0, 0x8000)}, {0xfff00001, times(0, 65520)}, {0x00000001, times(0, 65521)}, {0x7fff0001, times(0, 0x7fff)}} {
		checkRead(t, laid(uint32(len(c.body)), c.sum, c.body), c.body, 10+len(c.body))
		for _, sum := range []uint32{c.sum ^ 1<<31, c.sum + 1, ^c.sum} {
			checkRefused(t, laid(uint32(len(c.body)), sum, c.body), api.ErrSum)
		}
	}
}

// P10.2: ErrEnd of fewer than 10 bytes, ahead of all other errors.
func TestReadFewBytes(t *testing.T) {
	checkRefused(t, nil, api.ErrEnd)
	checkRefused(t, []byte{}, api.ErrEnd)
	for _, b := range [][]byte{made(t, nil), made(t, []byte("abc")), times(0, 10), times(255, 10), []byte("CGCFCFCFCF"), []byte("DFCFCFCFCF"), laid(1<<16+1, 1, nil), laid(1<<32-1, 1, nil), laid(0, 2, nil)} {
		for n := range 10 {
			checkRefused(t, b[:n], api.ErrEnd)
		}
	}
}

// P10.2: ErrForm of each other byte in the place of either mark.
func TestReadErrForm(t *testing.T) {
	for _, body := range [][]byte{nil, []byte("abc")} {
		for at, mark := range []byte{0x43, 0x46} {
			for turn := range 255 {
				b := made(t, body)
				b[at] = mark ^ byte(turn+1)
				checkRefused(t, b, api.ErrForm)
			}
		}
	}
	swapped := made(t, nil)
	swapped[0], swapped[1] = swapped[1], swapped[0]
	checkRefused(t, swapped, api.ErrForm)
	checkRefused(t, append([]byte{0}, made(t, nil)...), api.ErrForm)
	checkRefused(t, times(0, 10), api.ErrForm)
}

// P10.2: ErrForm is ahead of ErrBig, of ErrEnd and of ErrSum.
func TestReadErrFormFirst(t *testing.T) {
	for _, b := range [][]byte{laid(1<<16+1, 1, nil), laid(1<<31, 1, nil), laid(1<<32-1, 0, times(0, 99)), laid(1, 1, nil), laid(1<<16, 1, times(0, 99)), laid(0, 2, nil), laid(3, 1, []byte("abc"))} {
		for _, marks := range []string{"cF", "Cf", "FC", "CC", "FF", "\x00\x00", "\xc3F", "C\xc6"} {
			copy(b, marks)
			checkRefused(t, b, api.ErrForm)
		}
	}
}

// bigLengths are lengths beyond MaxFrame, also those that a number of 32 bits with a sign or one of 16 bits would take for others.
var bigLengths = []uint32{1<<16 + 1, 1<<16 + 2, 1<<16 + 3, 1 << 17, 1<<24 - 1, 1 << 24, 1<<24 + 3, 1<<31 - 1, 1 << 31, 1<<31 + 1, 1<<31 + 3, 0x80010000, 0x81000000, 0xff000000, 0xff000003, 0xffff0000, 1<<32 - 10, 1<<32 - 3, 1<<32 - 1}

// P10.2: ErrBig of a body of more than MaxFrame bytes, ahead of ErrEnd and of ErrSum, also if all of it is there.
func TestReadErrBig(t *testing.T) {
	for _, length := range bigLengths {
		for _, body := range [][]byte{nil, []byte("abc"), times(0, api.MaxFrame), times(0, api.MaxFrame+1), times(0, 1<<17)} {
			for _, sum := range []uint32{uint32(frame.Sum(body)), uint32(frame.Sum(body)) ^ 1<<31} {
				checkRefused(t, laid(length, sum, body), api.ErrBig)
			}
		}
	}
	whole := mixed(api.MaxFrame + 1)
	checkRefused(t, laid(api.MaxFrame+1, uint32(frame.Sum(whole)), whole), api.ErrBig)
	checkRefused(t, laid(api.MaxFrame+1, uint32(frame.Sum(whole))+1, whole), api.ErrBig)
}

// P10.2: ErrEnd of a frame that is cut off at any place, ahead of ErrSum.
func TestReadCutOff(t *testing.T) {
	for _, body := range [][]byte{{0}, []byte("abc"), mixed(10), mixed(300), times(0, 20)} {
		b := made(t, body)
		for n := range b {
			checkRefused(t, b[:n], api.ErrEnd)
			if n < 10 {
				continue
			}
			// The sum is the one of what is left, yet it is not the frame's end.
			left := b[10:n]
			checkRefused(t, laid(uint32(len(body)), uint32(frame.Sum(left)), left), api.ErrEnd)
		}
		b[9] ^= 1
		checkRefused(t, b[:len(b)-1], api.ErrEnd)
	}
	for _, n := range []int{0, 1, 1<<16 - 11, 1<<16 - 10, 1<<16 - 1} {
		checkRefused(t, laid(api.MaxFrame, 1, times(0, n)), api.ErrEnd)
	}
}

// P10.2: ErrSum for each byte of the sum and of the body, however it is turned.
func TestReadErrSum(t *testing.T) {
	for _, body := range [][]byte{nil, {0}, {255}, []byte("abc"), mixed(40), times(255, 20)} {
		b := made(t, body)
		for at := 6; at < len(b); at++ {
			for turn := 1; turn < 256; turn++ {
				b[at] ^= byte(turn)
				checkRefused(t, b, api.ErrSum)
				checkRefused(t, slices.Concat(b, made(t, body)), api.ErrSum)
				b[at] ^= byte(turn)
			}
		}
		checkRead(t, b, body, len(b))
	}
}

// P10.2: so in long bodies, and of bytes that changed their places, or of fewer or more bytes than the sum is of.
func TestReadErrSumLong(t *testing.T) {
	body := mixed(api.MaxFrame)
	b := made(t, body)
	for _, at := range []int{6, 7, 8, 9, 10, 11, 300, 1 << 15, 65520, 65521, api.MaxFrame + 8, api.MaxFrame + 9} {
		for _, turn := range []byte{1, 128, 255} {
			b[at] ^= turn
			checkRefused(t, b, api.ErrSum)
			b[at] ^= turn
		}
	}
	checkRead(t, b, body, len(b))
	sum := uint32(frame.Sum([]byte("abc")))
	for _, other := range []string{"acb", "bac", "cba", "ab", "bc", "abcd", "", "abb"} {
		checkRefused(t, laid(uint32(len(other)), sum, []byte(other)), api.ErrSum)
	}
	// Adler's two numbers are what is held, not what they would be with another modulus.
	checkRefused(t, laid(65521, 0xfff10001, times(0, 65521)), api.ErrSum)
	checkRead(t, laid(65521, 1, times(0, 65521)), times(0, 65521), 65531)
}
