package pack_test

import (
	"bytes"
	"encoding/binary"
	"errors"
	"io"
	"math/rand"
	"reflect"
	"slices"
	"testing"

	"colander/api"
	"colander/pack"
	"colander/rule"
)

// What follows is the chapter a second time: what isn't right by its own words, and bytes read as a stream, whose first fault ends it all.

// fault tells whether one of these holds.
func fault(all ...bool) bool { return slices.Contains(all, true) }

// beyond tells whether a number is out of its range.
func beyond(n, lo, hi int) bool { return n < lo || n > hi }

func wrongRule(r rule.Rule) bool {
	return fault(beyond(r.ID, 1, 1<<40), beyond(r.Priority, 0, 1000), beyond(r.Action, 0, 255), beyond(r.Scope, 1, 65535), len(r.Pattern) > 256)
}

func wrongEntry(e pack.Entry) bool {
	d := e.Delta
	return fault(beyond(e.View, 0, 1<<40), beyond(e.Client, 1, 1<<40), beyond(e.Request, 1, 1<<40),
		beyond(d.Default, -1, 1<<40), beyond(d.Closed, -1, 1<<40), beyond(d.Fuel, -1, 1<<40), beyond(d.Stack, -1, 1<<40),
		len(d.Put) > 16, len(d.Drop) > 16, slices.ContainsFunc(d.Put, wrongRule),
		slices.ContainsFunc(d.Drop, func(id int) bool { return beyond(id, 1, 1<<40) }))
}

func wrongMessage(m pack.Message) bool {
	many := len(m.Log)
	return fault(beyond(m.Kind, 1, 8), beyond(m.View, 0, 1<<40), beyond(m.Normal, 0, 1<<40), beyond(m.From, 0, 6), beyond(m.To, 0, 6), beyond(m.Op, 0, 64), beyond(m.Commit, 0, 64),
		m.Kind == 1 && many != 1, slices.Contains([]int{2, 3, 4, 7}, m.Kind) && many != 0, many > 64, slices.ContainsFunc(m.Log, wrongEntry))
}

func wrongRecord(r pack.Record) bool {
	return fault(beyond(r.Kind, 1, 5), beyond(r.A, 0, 1<<40), beyond(r.B, 0, 1<<40), r.Kind == 2 && len(r.Log) != 1, r.Kind != 2 && len(r.Log) > 0, slices.ContainsFunc(r.Log, wrongEntry))
}

// stream reads bytes by the library; what isn't there ends it by a panic with an error.
type stream struct{ *bytes.Reader }

// bytes are the next n.
func (s stream) bytes(n int) []byte {
	if n < 0 || n > s.Len() {
		panic(io.ErrUnexpectedEOF)
	}
	b := make([]byte, n)
	io.ReadFull(s, b)
	return b
}

func (s stream) number() int {
	return int(binary.BigEndian.Uint64(append([]byte{0, 0}, s.bytes(6)...))) - 1
}

// fill fills numbers, in order, into the places.
func (s stream) fill(places ...*int) {
	for _, place := range places {
		*place = s.number()
	}
}

// times is how many parts a list says that it has.
func (s stream) times() int {
	n := s.number()
	if n < 0 || n > 1<<16 {
		panic(io.ErrUnexpectedEOF)
	}
	return n
}

func (s stream) log() []pack.Entry {
	var log []pack.Entry
	for range s.times() {
		e := pack.Entry{}
		d := &e.Delta
		s.fill(&e.View, &e.Client, &e.Request, &d.Default, &d.Closed, &d.Fuel, &d.Stack)
		for range s.times() {
			r := rule.Rule{}
			s.fill(&r.ID, &r.Priority, &r.Action, &r.Scope)
			r.Pattern = string(s.bytes(s.number()))
			d.Put = append(d.Put, r)
		}
		for range s.times() {
			d.Drop = append(d.Drop, s.number())
		}
		log = append(log, e)
	}
	return log
}

// whole reads a stream, which is to end where the thing does.
func whole(b []byte, read func(s stream)) (err error) {
	defer func() {
		if fault, ok := recover().(error); ok {
			err = fault
		}
	}()
	s := stream{bytes.NewReader(b)}
	read(s)
	if s.Len() > 0 || len(b) > 1<<16 {
		err = errors.New("more bytes")
	}
	return err
}

// slowMessage is what Decode is due to answer.
func slowMessage(b []byte) (pack.Message, api.Errno) {
	m := pack.Message{}
	err := whole(b, func(s stream) {
		s.fill(&m.Kind, &m.View, &m.From, &m.To, &m.Op, &m.Commit, &m.Normal)
		m.Log = s.log()
	})
	if err != nil || wrongMessage(m) {
		return pack.Message{}, api.ErrForm
	}
	return m, api.OK
}

// slowRecord is what DecodeRecord is due to answer.
func slowRecord(b []byte) (pack.Record, api.Errno) {
	r := pack.Record{}
	err := whole(b, func(s stream) {
		s.fill(&r.Kind, &r.A, &r.B)
		r.Log = s.log()
	})
	if err != nil || wrongRecord(r) {
		return pack.Record{}, api.ErrForm
	}
	return r, api.OK
}

// checkRead holds both calls that read against the second way; what they read is written as it was.
func checkRead(t *testing.T, b []byte) (message, record api.Errno) {
	t.Helper()
	m, e := pack.Decode(b)
	if want, due := slowMessage(b); e != due || !sameMessage(m, want) || e != api.OK && !reflect.DeepEqual(m, want) {
		t.Fatalf("%x: %+v %d, not %+v %d", b, m, e, want, due)
	}
	if again, f := pack.Encode(m); e == api.OK && (f != api.OK || !bytes.Equal(again, b)) {
		t.Fatalf("%x, not %x: %d", again, b, f)
	}
	r, f := pack.DecodeRecord(b)
	if want, due := slowRecord(b); f != due || !sameRecord(r, want) || f != api.OK && !reflect.DeepEqual(r, want) {
		t.Fatalf("%x: %+v %d, not %+v %d", b, r, f, want, due)
	}
	if again, g := pack.EncodeRecord(r); f == api.OK && (g != api.OK || !bytes.Equal(again, b)) {
		t.Fatalf("%x, not %x: %d", again, b, g)
	}
	return e, f
}

// edgy is a number from lo to hi, mostly at an end, and seldom out of it.
func edgy(r *rand.Rand, lo, hi int) int {
	switch r.Intn(200) {
	case 0:
		return lo - 1
	case 1:
		return hi + 1
	}
	return []int{lo, hi, lo + r.Intn(hi-lo+1), lo + r.Intn(min(hi-lo, 300)+1)}[r.Intn(4)]
}

// few is a small number, and sometimes the most.
func few(r *rand.Rand, most int) int {
	if r.Intn(12) == 0 {
		return most
	}
	return r.Intn(min(most+1, 3))
}

func grownRule(r *rand.Rand) rule.Rule {
	pattern := make([]byte, r.Intn(9))
	if r.Intn(40) == 0 {
		pattern = make([]byte, edgy(r, 200, 256))
	}
	r.Read(pattern)
	return rule.Rule{ID: edgy(r, 1, 1<<40), Priority: edgy(r, 0, 1000), Action: edgy(r, 0, 255), Scope: edgy(r, 1, 65535), Pattern: string(pattern)}
}

func grownEntry(r *rand.Rand) pack.Entry {
	e := pack.Entry{View: edgy(r, 0, 1<<40), Client: edgy(r, 1, 1<<40), Request: edgy(r, 1, 1<<40)}
	e.Delta = rule.Delta{Default: edgy(r, 0, 1<<40), Closed: edgy(r, 0, 1<<40), Fuel: edgy(r, 0, 1<<40), Stack: edgy(r, 0, 1<<40)}
	for range few(r, 16) {
		e.Delta.Put = append(e.Delta.Put, grownRule(r))
	}
	for range few(r, 16) {
		e.Delta.Drop = append(e.Delta.Drop, edgy(r, 1, 1<<40))
	}
	return e
}

func grownLog(r *rand.Rand, n int) []pack.Entry {
	var log []pack.Entry
	for range n {
		log = append(log, grownEntry(r))
	}
	return log
}

func grownMessage(r *rand.Rand) pack.Message {
	m := pack.Message{Kind: edgy(r, 1, 8), View: edgy(r, 0, 1<<40), From: edgy(r, 0, 6), To: edgy(r, 0, 6), Op: edgy(r, 0, 64), Commit: edgy(r, 0, 64), Normal: edgy(r, 0, 1<<40)}
	switch m.Kind {
	case 1:
		m.Log = grownLog(r, 1)
	case 5, 6, 8:
		m.Log = grownLog(r, few(r, 20))
	}
	if r.Intn(20) == 0 {
		m.Log = grownLog(r, r.Intn(3))
	}
	return m
}

func grownRecord(r *rand.Rand) pack.Record {
	one := pack.Record{Kind: edgy(r, 1, 5), A: edgy(r, 0, 1<<40), B: edgy(r, 0, 1<<40)}
	if one.Kind == 2 || r.Intn(20) == 0 {
		one.Log = grownLog(r, 1)
	}
	return one
}

// P11.1, P11.2: grown messages and records: whether they are right, and that they are written and read.
func TestGrownSlow(t *testing.T) {
	r := rand.New(rand.NewSource(1))
	many := map[bool]int{}
	for range 20000 {
		m := grownMessage(r)
		if m.Right() == wrongMessage(m) {
			t.Fatalf("%+v: %v", m, m.Right())
		}
		b, e := pack.Encode(m)
		many[m.Right()]++
		if !m.Right() && (e != api.ErrForm || len(b) > 0) {
			t.Fatalf("%+v: %d", m, e)
		}
		if m.Right() {
			checkMessage(t, m, raw(m))
		}
		one := grownRecord(r)
		if one.Right() == wrongRecord(one) {
			t.Fatalf("%+v: %v", one, one.Right())
		}
		many[one.Right()]++
		if one.Right() {
			checkRecord(t, one, raw(one))
		}
	}
	if many[true] < 5000 || many[false] < 5000 {
		t.Error(many)
	}
}

// P11.1: Same tells of grown logs what holds of all their parts.
func TestSameSlow(t *testing.T) {
	r := rand.New(rand.NewSource(2))
	for range 2000 {
		a, b := grownLog(r, r.Intn(3)), grownLog(r, r.Intn(3))
		checkSame(t, a, b, sameEntries(a, b))
		checkSame(t, a, wholeEntries(a), true)
		checkSame(t, append(wholeEntries(a), b...), append(wholeEntries(b), a...), sameEntries(slices.Concat(a, b), slices.Concat(b, a)))
	}
}

// turned is bytes with some fault, or none.
func turned(r *rand.Rand, b []byte) []byte {
	place := r.Intn(len(b))
	switch r.Intn(7) {
	case 0:
		b[place] ^= 1 << r.Intn(8)
	case 1:
		return b[:place]
	case 2:
		return slices.Insert(b, place, byte(r.Intn(3)))
	case 3:
		n := edgy(r, -1, 1<<r.Intn(42))
		copy(b[place/6*6:], raw(max(n, -1)))
	case 4:
		place = place / 6 * 6
		return slices.Delete(b, place, min(len(b), place+6*(1+r.Intn(9))))
	case 5:
		return slices.Insert(b, place/6*6, raw(r.Intn(4)-1)...)
	}
	return b
}

// P11.2, P1: bytes with faults, and bytes from everywhere.
func TestReadSlow(t *testing.T) {
	r := rand.New(rand.NewSource(3))
	messages, records := map[api.Errno]int{}, map[api.Errno]int{}
	count := func(m, r api.Errno) {
		messages[m]++
		records[r]++
	}
	for range 30000 {
		count(checkRead(t, turned(r, raw(grownMessage(r)))))
		count(checkRead(t, turned(r, raw(grownRecord(r)))))
		b := make([]byte, r.Intn(100))
		r.Read(b)
		count(checkRead(t, b))
		numbers := make([]byte, 0, 300)
		for range r.Intn(40) {
			numbers = append(numbers, raw(r.Intn(5)-1)...)
		}
		count(checkRead(t, numbers))
	}
	for _, e := range []api.Errno{api.OK, api.ErrForm} {
		if messages[e] < 5000 || records[e] < 5000 {
			t.Error(messages, records)
		}
	}
}

// P11.2: each number of a message and a record is put in another one's place, one by one.
func TestEachNumberSlow(t *testing.T) {
	e := plain(1, 1)
	e.Delta.Put = []rule.Rule{{ID: 1, Scope: 1, Pattern: "sixsix"}, {ID: 2, Scope: 1}}
	e.Delta.Drop = []int{3, 4}
	for _, b := range [][]byte{raw(pack.Message{Kind: 8, Log: []pack.Entry{e, plain(2, 2)}}), raw(pack.Message{Kind: 1, Log: []pack.Entry{e}}), raw(pack.Record{Kind: 2, Log: []pack.Entry{e}}), raw(pack.Record{Kind: 1})} {
		for place := 0; place < len(b); place += 6 {
			for _, n := range []int{-1, 0, 1, 2, 3, 4, 5, 6, 7, 8, 9, 16, 17, 63, 64, 65, 255, 256, 257, 1000, 1001, 65535, 65536, 1<<40 - 1, 1 << 40, 1<<40 + 1, 1 << 47, 1<<48 - 2} {
				other := bytes.Clone(b)
				copy(other[place:], raw(n))
				checkRead(t, other)
			}
		}
	}
}
