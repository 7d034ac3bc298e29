package tape_test

import (
	"fmt"
	"math"
	"math/rand"
	"testing"

	"colander/api"
	"colander/tape"
)

// What follows is the chapter a second time: bytes that each know whether they are safe, and calls that are counted upwards.

// cell is a byte of a tape.
type cell struct {
	value byte
	safe  bool
}

// slow is a tape as the chapter tells it.
type slow struct {
	cells                   []cell
	room, armedFor, counted int
	armed, down             bool
}

// step is a call with its arguments.
type step struct {
	kind string
	n    int
	b    []byte
}

// wrong is the error of a step other than that of the power.
func (s *slow) wrong(x step) api.Errno {
	switch {
	case s.down:
		return api.ErrDown
	case x.kind == "append" && len(s.cells)+len(x.b) > s.room:
		return api.ErrSpace
	case x.kind == "trim" && !(0 <= x.n && x.n <= len(s.cells)):
		return api.ErrRange
	}
	return api.OK
}

// crash leaves what the power leaves.
func (s *slow) crash(x step) {
	var left []cell
	place := 0
	for _, c := range s.cells {
		if !c.safe {
			if place >= x.n {
				break
			}
			if place < len(x.b) {
				c.value ^= x.b[place]
			}
			place++
		}
		left = append(left, cell{c.value, true})
	}
	s.cells, s.armed, s.down = left, false, false
}

// do does a step; calls without an error are answered OK.
func (s *slow) do(x step) api.Errno {
	switch x.kind {
	case "arm":
		s.armed, s.armedFor, s.counted = x.n >= 0, x.n, 0
		return api.OK
	case "crash":
		s.crash(x)
		return api.OK
	}
	if e := s.wrong(x); e != api.OK {
		return e
	}
	goes := s.armed && s.counted == s.armedFor
	s.counted++
	if x.kind == "append" {
		for _, c := range x.b {
			s.cells = append(s.cells, cell{c, false})
		}
	}
	if goes {
		s.down = true
		return api.ErrDown
	}
	if x.kind == "trim" {
		s.cells = s.cells[:x.n]
	}
	if x.kind != "append" {
		for i := range s.cells {
			s.cells[i].safe = true
		}
	}
	return api.OK
}

// state is what it tells of itself.
func (s *slow) state() state {
	b, safe := make([]byte, 0, len(s.cells)), 0
	for _, c := range s.cells {
		b = append(b, c.value)
		if c.safe {
			safe++
		}
	}
	return state{string(b), safe, s.room - len(b), s.down}
}

// try does a step with a tape.
func try(p *tape.Tape, x step) api.Errno {
	switch x.kind {
	case "append":
		return p.Append(x.b)
	case "sync":
		return p.Sync()
	case "trim":
		return p.Trim(x.n)
	case "arm":
		p.Arm(x.n)
	case "crash":
		p.Crash(x.n, x.b)
	}
	return api.OK
}

// checkSlow holds a tape against the second way, step by step, and counts the errors.
func checkSlow(t *testing.T, room int, steps []step, many map[api.Errno]int) {
	t.Helper()
	p, s := tape.New(room), &slow{room: room}
	for i, x := range steps {
		e, want := try(p, x), s.do(x)
		if got, should := look(p), s.state(); e != want || got != should {
			t.Fatalf("room %d, %.2000s: %d %v, not %d %v", room, fmt.Sprint(steps[:i+1]), e, got, want, should)
		}
		many[e]++
	}
}

// checkMany tells of errors that came too seldom.
func checkMany(t *testing.T, many map[api.Errno]int, least int) {
	t.Helper()
	for _, e := range []api.Errno{api.OK, api.ErrDown, api.ErrSpace, api.ErrRange} {
		if many[e] < least {
			t.Errorf("%d: %d times only", e, many[e])
		}
	}
}

// P12.1 to P12.4: all lists of four small steps, on tapes that are empty, that have some bytes, and that are down.
func TestShortSlow(t *testing.T) {
	steps := []step{
		{"append", 0, nil}, {"append", 0, []byte{1}}, {"append", 0, []byte{2, 3}}, {"sync", 0, nil}, {"trim", -1, nil}, {"trim", 0, nil}, {"trim", 1, nil}, {"trim", 3, nil},
		{"arm", -1, nil}, {"arm", 0, nil}, {"arm", 1, nil}, {"crash", -1, []byte{9}}, {"crash", 1, nil}, {"crash", 1, []byte{0xf0, 0x0f}}, {"crash", 9, []byte{0, 0x80}},
	}
	ahead := [][]step{nil, {{"append", 0, []byte{7, 8}}, {"sync", 0, nil}, {"append", 0, []byte{9}}}, {{"append", 0, []byte{4, 5}}, {"arm", 0, nil}, {"trim", 2, nil}}}
	many := map[api.Errno]int{}
	for _, first := range ahead {
		for n := range len(steps) * len(steps) * len(steps) * len(steps) {
			list := first[:len(first):len(first)]
			for range 4 {
				list = append(list, steps[n%len(steps)])
				n /= len(steps)
			}
			checkSlow(t, 4, list, many)
		}
	}
	checkMany(t, many, 1000)
}

// number is a small number, or one beyond all bounds.
func number(r *rand.Rand, most int) int {
	if r.Intn(20) == 0 {
		return []int{math.MinInt, -1 << 32, -1 << 31, 1 << 31, 1 << 32, math.MaxInt}[r.Intn(6)]
	}
	return r.Intn(most+2) - 1
}

// grown is a step from everywhere.
func grown(r *rand.Rand, room int) step {
	b := make([]byte, r.Intn(room/2+2))
	r.Read(b)
	switch r.Intn(12) {
	case 0:
		return step{"crash", number(r, room), b}
	case 1, 2:
		return step{"arm", number(r, 6), nil}
	case 3, 4:
		return step{"trim", number(r, room), nil}
	case 5, 6, 7:
		return step{"sync", 0, nil}
	}
	return step{"append", 0, b}
}

// P12.1 to P12.4, P1: long lists of steps from everywhere.
func TestGrownSlow(t *testing.T) {
	r := rand.New(rand.NewSource(1))
	many := map[api.Errno]int{}
	for n := range 3000 {
		room := n % 60
		if n%500 == 0 {
			room = api.MaxDisk >> (n / 500)
		}
		list := make([]step, 60)
		for i := range list {
			list[i] = grown(r, room)
		}
		checkSlow(t, room, list, many)
	}
	checkMany(t, many, 10000)
}
