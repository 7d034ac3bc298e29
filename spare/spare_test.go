package spare_test

import (
	"reflect"
	"testing"

	"colander/pack"
	"colander/rule"
	"colander/spare"
)

// one is an entry with both lists.
func one() pack.Entry {
	return pack.Entry{View: 1, Client: 2, Request: 3, Delta: rule.Delta{Put: []rule.Rule{{ID: 4}, {ID: 5}}, Drop: []int{6}}}
}

// A log with spare room is the same log, and something stands in all its spare room.
func TestLog(t *testing.T) {
	log := []pack.Entry{one(), {View: 7}}
	got := spare.Log(log)
	if !pack.Same(got, log) || cap(got) < 5 || got[:3][2].View == 0 {
		t.Fatalf("%+v", got[:cap(got)])
	}
	d := got[0].Delta
	if cap(d.Put) < 5 || d.Put[:5][4] != spare.Rubbish() || cap(d.Drop) < 4 || d.Drop[:4][3] != 77 || cap(got[1].Delta.Drop) < 3 {
		t.Fatalf("%+v", d)
	}
	if list := spare.List([]int{1, 2}, 9); len(list) != 2 || list[:5][4] != 9 {
		t.Fatalf("%v", list)
	}
}

// A whole copy shows a change of any place, spare room too, and is none of its lists.
func TestWhole(t *testing.T) {
	for _, change := range []func(log []pack.Entry){
		func(log []pack.Entry) { log[0].View++ },
		func(log []pack.Entry) { log[:3][2].View++ },
		func(log []pack.Entry) { log[0].Delta.Put[1].ID++ },
		func(log []pack.Entry) { log[0].Delta.Put[:3][2].ID++ },
		func(log []pack.Entry) { log[0].Delta.Drop[0]++ },
		func(log []pack.Entry) { log[0].Delta.Drop[:2][1]++ },
		spare.SpoilLog,
		func(log []pack.Entry) { spare.SpoilEntry(log[0]) },
	} {
		log := spare.Log([]pack.Entry{one()})
		was := spare.WholeLog(log)
		if !reflect.DeepEqual(spare.WholeLog(log), was) {
			t.Fatal("it changed by itself")
		}
		change(log)
		if reflect.DeepEqual(spare.WholeLog(log), was) {
			t.Fatal("a change isn't seen")
		}
	}
}

// Nothing is left of a log that is spoilt.
func TestSpoil(t *testing.T) {
	log := spare.Log([]pack.Entry{one()})
	d := log[0].Delta
	spare.SpoilLog(log)
	for _, e := range log[:cap(log)] {
		if e.View != 77 {
			t.Fatalf("%+v", e)
		}
	}
	for i, r := range d.Put[:cap(d.Put)] {
		if r != spare.Rubbish() {
			t.Fatalf("%d: %+v", i, r)
		}
	}
	for i, n := range d.Drop[:cap(d.Drop)] {
		if n != 88 {
			t.Fatalf("%d: %d", i, n)
		}
	}
}
