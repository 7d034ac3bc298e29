package pack_test

import (
	"bytes"
	"reflect"
	"slices"
	"testing"

	"colander/api"
	"colander/pack"
	"colander/rule"
	"colander/spare"
)

// Rules that hold everywhere: what Encode is handed is neither changed nor kept, and what it answers is new memory.
func TestEncodeMemory(t *testing.T) {
	for _, m := range []pack.Message{message(1, 1), message(2, 0), message(5, 20), message(8, 64), sized(t, 1<<16)} {
		want := raw(m)
		m.Log = spare.Log(m.Log)
		was := spare.WholeLog(m.Log)
		one, _ := pack.Encode(m)
		two, e := pack.Encode(m)
		spare.Spoil(one, 88)
		if !reflect.DeepEqual(spare.WholeLog(m.Log), was) {
			t.Fatalf("%d entries: changed, or shared", len(m.Log))
		}
		spare.SpoilLog(m.Log)
		if e != api.OK || !bytes.Equal(two, want) {
			t.Fatalf("%x %d, not %x", two, e, want)
		}
	}
}

// Rules that hold everywhere: so for EncodeRecord.
func TestEncodeRecordMemory(t *testing.T) {
	for _, r := range []pack.Record{record(1, 0), record(2, 1), {Kind: 2, Log: []pack.Entry{full()}}} {
		want := raw(r)
		r.Log = spare.Log(r.Log)
		was := spare.WholeLog(r.Log)
		one, _ := pack.EncodeRecord(r)
		two, e := pack.EncodeRecord(r)
		spare.Spoil(one, 88)
		if !reflect.DeepEqual(spare.WholeLog(r.Log), was) {
			t.Fatalf("%d entries: changed, or shared", len(r.Log))
		}
		spare.SpoilLog(r.Log)
		if e != api.OK || !bytes.Equal(two, want) {
			t.Fatalf("%x %d, not %x", two, e, want)
		}
	}
}

// Rules that hold everywhere: so for what is refused, and for the calls that ask.
func TestAskingMemory(t *testing.T) {
	for _, m := range append(wrongMessages(), largest(), message(8, 3)) {
		a, b := spare.Log(m.Log), spare.Log(m.Log)
		wasA, wasB := spare.WholeLog(a), spare.WholeLog(b)
		m.Log = a
		m.Right()
		pack.Encode(m)
		pack.EncodeRecord(pack.Record{Kind: 2, Log: a})
		pack.Same(a, b)
		if !reflect.DeepEqual(spare.WholeLog(a), wasA) || !reflect.DeepEqual(spare.WholeLog(b), wasB) {
			t.Fatalf("%+v: changed", m)
		}
	}
}

// roomyBytes are bytes with spare room behind them, and all that they lie in.
func roomyBytes(b []byte) (part, room []byte) {
	part = spare.List(b, 77)
	return part, part[:cap(part)]
}

// checkApart holds that no list of a log shares with another one: each is spoilt, and all others are looked at.
func checkApart(t *testing.T, read func() []pack.Entry) {
	t.Helper()
	want := read()
	for place := range want {
		one := read()
		due := wholeEntries(want)
		spare.SpoilRules(one[place].Delta.Put)
		due[place].Delta.Put = slices.Repeat([]rule.Rule{spare.Rubbish()}, len(due[place].Delta.Put))
		if !sameEntries(one, due) {
			t.Fatalf("Put at %d shares with another list", place)
		}
		spare.Spoil(one[place].Delta.Drop, 88)
		due[place].Delta.Drop = slices.Repeat([]int{88}, len(due[place].Delta.Drop))
		if !sameEntries(one, due) {
			t.Fatalf("Drop at %d shares with another list", place)
		}
		// An append to a list's spare room is to be seen nowhere, too.
		grown := read()
		grown[place].Delta.Drop = append(grown[place].Delta.Drop, 99)[:len(want[place].Delta.Drop)]
		grown[place].Delta.Put = append(grown[place].Delta.Put, spare.Rubbish())[:len(want[place].Delta.Put)]
		if !sameEntries(grown, want) {
			t.Fatalf("spare room at %d is shared", place)
		}
	}
	one, two := read(), read()
	spare.SpoilLog(one)
	if !sameEntries(two, want) {
		t.Fatal("two answers share")
	}
}

// wholeEntries is a copy of entries and of their lists.
func wholeEntries(log []pack.Entry) []pack.Entry {
	list := slices.Clone(log)
	for i, e := range list {
		list[i].Delta.Put, list[i].Delta.Drop = slices.Clone(e.Delta.Put), slices.Clone(e.Delta.Drop)
	}
	return list
}

// Rules that hold everywhere: what Decode is handed is neither changed nor kept, and what it answers is new memory.
func TestDecodeMemory(t *testing.T) {
	many := message(8, 0)
	for range 9 {
		many.Log = append(many.Log, full(), plain(1, 1))
	}
	for _, m := range []pack.Message{{Kind: 2}, message(1, 1), {Kind: 1, Log: []pack.Entry{full()}}, message(5, 20), many} {
		b, room := roomyBytes(raw(m))
		was := bytes.Clone(room)
		got, e := pack.Decode(b)
		checkApart(t, func() []pack.Entry {
			got, _ := pack.Decode(b)
			return got.Log
		})
		if !bytes.Equal(room, was) {
			t.Fatalf("%x: changed, or shared", room)
		}
		spare.Spoil(room, 99)
		if e != api.OK || !sameMessage(got, m) {
			t.Fatalf("%+v %d, not %+v", got, e, m)
		}
	}
}

// Rules that hold everywhere: so for DecodeRecord.
func TestDecodeRecordMemory(t *testing.T) {
	for _, r := range []pack.Record{{Kind: 1}, record(2, 1), {Kind: 2, Log: []pack.Entry{full()}}} {
		b, room := roomyBytes(raw(r))
		was := bytes.Clone(room)
		got, e := pack.DecodeRecord(b)
		checkApart(t, func() []pack.Entry {
			got, _ := pack.DecodeRecord(b)
			return got.Log
		})
		if !bytes.Equal(room, was) {
			t.Fatalf("%x: changed, or shared", room)
		}
		spare.Spoil(room, 99)
		if e != api.OK || !sameRecord(got, r) {
			t.Fatalf("%+v %d, not %+v", got, e, r)
		}
	}
}

// Rules that hold everywhere: so for bytes that are refused; the spare room behind bytes is none of them.
func TestRefusedMemory(t *testing.T) {
	for _, b := range [][]byte{nil, {1}, raw(message(9, 0)), raw(message(8, 3))[:50], raw(message(8, 3), 1), raw(largest())} {
		b, room := roomyBytes(b)
		was := bytes.Clone(room)
		checkNoMessage(t, b)
		checkNoRecord(t, b)
		if !bytes.Equal(room, was) {
			t.Errorf("%x, not %x", room, was)
		}
	}
	whole := raw(message(8, 3))
	for n := range whole {
		checkNoMessage(t, whole[:n])
	}
	longer := raw(record(2, 1), 0)
	if _, e := pack.DecodeRecord(longer[:len(longer)-6]); e != api.OK {
		t.Error(e)
	}
}
