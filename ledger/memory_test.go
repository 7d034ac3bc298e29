package ledger_test

import (
	"reflect"
	"slices"
	"testing"

	"colander/api"
	"colander/ledger"
	"colander/pack"
	"colander/spare"
)

// roomyState is a state with spare room behind all its lists.
func roomyState(s ledger.State) ledger.State {
	s.Log = spare.Log(s.Log)
	return s
}

// spoilRecords writes over records and all their lists.
func spoilRecords(records []pack.Record) {
	for _, r := range records {
		spare.SpoilLog(r.Log)
	}
	spare.Spoil(records, pack.Record{Kind: 77})
}

// kept holds that entries and their spare room are as they were.
func kept(t *testing.T, log, was []pack.Entry) {
	t.Helper()
	if !reflect.DeepEqual(spare.WholeLog(log), was) {
		t.Fatalf("%+v: changed, or shared", log)
	}
}

// checkApart holds that no list of a log shares with another one: each is spoilt, and the others are looked at.
func checkApart(t *testing.T, log func() []pack.Entry) {
	t.Helper()
	want := log()
	for place := range want {
		one := log()
		spare.SpoilRules(one[place].Delta.Put)
		if e := one[place]; len(e.Delta.Drop) > 0 && !slices.Equal(e.Delta.Drop, want[place].Delta.Drop) {
			t.Fatalf("Put and Drop at %d share", place)
		}
		spare.Spoil(one[place].Delta.Drop, 88)
		one[place] = want[place]
		if !pack.Same(one, want) {
			t.Fatalf("the lists at %d share with others", place)
		}
	}
	one, two := log(), log()
	spare.SpoilLog(one)
	if !pack.Same(two, want) {
		t.Fatal("two answers share")
	}
}

// letters are logs of small and great entries; of many records, too.
var letters = []string{"", "a", "X", "aX", "XX", "XYZ", "aXbYcZ"}

// Rules that hold everywhere: what Apply is handed is neither changed nor kept, and what it tells is new memory, also of the lists that the record leaves as they are.
func TestApplyMemory(t *testing.T) {
	for _, text := range letters {
		for _, r := range []pack.Record{viewed(9, 9), added('a'), added('X'), cut(0), cut(len(text) / 2), cut(len(text)), committed(len(text)), active(9)} {
			s := roomyState(state(4, 3, 0, 2, text))
			r.Log = spare.Log(r.Log)
			wasS, wasR := spare.WholeLog(s.Log), spare.WholeLog(r.Log)
			want := applied(t, state(4, 3, 0, 2, text), pack.Record{Kind: r.Kind, A: r.A, B: r.B, Log: slices.Clone(r.Log)})[1]
			checkApart(t, func() []pack.Entry {
				got, _ := ledger.Apply(s, r)
				return got.Log
			})
			kept(t, s.Log, wasS)
			kept(t, r.Log, wasR)
			got, e := ledger.Apply(s, r)
			want.Log = wholeEntries(want.Log)
			spare.SpoilLog(s.Log)
			spare.SpoilLog(r.Log)
			if e != api.OK || !same(got, want) {
				t.Fatalf("%+v %d, not %+v", got, e, want)
			}
		}
	}
}

// wholeEntries is a copy of entries and of their lists.
func wholeEntries(log []pack.Entry) []pack.Entry {
	list := slices.Clone(log)
	for i, e := range list {
		list[i].Delta.Put, list[i].Delta.Drop = slices.Clone(e.Delta.Put), slices.Clone(e.Delta.Drop)
	}
	return list
}

// Rules that hold everywhere: an entry that a state has twice, in the same memory, is told in memory of its own each.
func TestTwiceMemory(t *testing.T) {
	e := entry('X')
	s := ledger.State{Log: []pack.Entry{e, e, e}}
	r := pack.Record{Kind: 2, Log: s.Log[:1]}
	checkApart(t, func() []pack.Entry {
		got, _ := ledger.Apply(s, r)
		return got.Log
	})
	checkApart(t, func() []pack.Entry {
		records, _ := ledger.Between(ledger.State{}, s)
		return logOf(records)
	})
	_, l := fresh(t, 5000)
	due(t, l.Save(s), api.OK)
	checkApart(t, func() []pack.Entry { return l.State().Log })
	if !reflect.DeepEqual(s.Log, log("XXX")) {
		t.Fatalf("%+v", s.Log)
	}
}

// logOf is the entries of records.
func logOf(records []pack.Record) []pack.Entry {
	var list []pack.Entry
	for _, r := range records {
		list = append(list, r.Log...)
	}
	return list
}

// Rules that hold everywhere: so for Between, whose records share nothing with one another, nor with another answer's.
func TestBetweenMemory(t *testing.T) {
	for _, from := range letters {
		for _, to := range letters {
			a, b := roomyState(state(4, 3, 0, 2, from)), roomyState(state(9, 9, len(to), 3, to))
			wasA, wasB := spare.WholeLog(a.Log), spare.WholeLog(b.Log)
			checkApart(t, func() []pack.Entry {
				records, _ := ledger.Between(a, b)
				return logOf(records)
			})
			one, _ := ledger.Between(a, b)
			two, e := ledger.Between(a, b)
			spoilRecords(one)
			kept(t, a.Log, wasA)
			kept(t, b.Log, wasB)
			spare.SpoilLog(a.Log)
			spare.SpoilLog(b.Log)
			due(t, e, api.OK)
			want, _ := ledger.Between(state(4, 3, 0, 2, from), state(9, 9, len(to), 3, to))
			if !sameRecords(two, want) {
				t.Fatalf("%+v, not %+v", two, want)
			}
		}
	}
}

// Rules that hold everywhere: so for what is refused, and for Right.
func TestRefusedMemory(t *testing.T) {
	right, next := roomyState(base()), roomyState(state(600, 400, 2, 3, "abYd"))
	wasRight, wasNext := spare.WholeLog(right.Log), spare.WholeLog(next.Log)
	_, l := fresh(t, 1<<16)
	due(t, l.Save(right), api.OK)
	for _, s := range append(wrongStates(), state(2, 1, 0, 0, "aY"), state(500, 300, 2, 3, "aXY")) {
		s = roomyState(s)
		was := spare.WholeLog(s.Log)
		s.Right()
		ledger.Apply(s, viewed(9, 9))
		ledger.Apply(s, added('a'))
		ledger.Between(s, right)
		ledger.Between(right, s)
		if l.Save(s) == api.OK {
			t.Fatalf("%+v: saved", s)
		}
		kept(t, s.Log, was)
	}
	for _, r := range append(wrongRecords(), viewed(1, 1), cut(1), cut(9), committed(1), active(65)) {
		r.Log = spare.Log(r.Log)
		was := spare.WholeLog(r.Log)
		ledger.Apply(right, r)
		kept(t, r.Log, was)
	}
	ledger.Between(next, right)
	kept(t, right.Log, wasRight)
	kept(t, next.Log, wasNext)
	checkState(t, l, base())
}

// Rules that hold everywhere: what Save is handed is neither changed nor kept, also where it is refused, or is the state already.
func TestSaveMemory(t *testing.T) {
	for _, text := range letters {
		p, l := fresh(t, 1<<16)
		s := roomyState(state(4, 3, len(text), 2, text))
		was := spare.WholeLog(s.Log)
		due(t, l.Save(s), api.OK)
		kept(t, s.Log, was)
		due(t, l.Save(s), api.OK)
		kept(t, s.Log, was)
		longer := roomyState(state(5, 3, len(text), 2, text+"Yz"))
		wasLonger := spare.WholeLog(longer.Log)
		p.Arm(0)
		due(t, l.Save(longer), api.ErrDown)
		kept(t, longer.Log, wasLonger)
		due(t, l.Save(longer), api.ErrDown)
		kept(t, longer.Log, wasLonger)
		spare.SpoilLog(s.Log)
		spare.SpoilLog(longer.Log)
		checkState(t, l, state(4, 3, len(text), 2, text))
		p.Crash(0, nil)
		opened(t, p, state(4, 3, len(text), 2, text))
	}
}

// Rules that hold everywhere: a state that is handed in, changed, and handed in again is saved as it is then.
func TestSaveChanged(t *testing.T) {
	p, l := fresh(t, 1<<16)
	s := state(4, 3, 1, 2, "XYZ")
	due(t, l.Save(s), api.OK)
	s.Log[2].Delta.Drop[0]++
	due(t, l.Save(s), api.OK)
	checkState(t, l, s)
	opened(t, laid(t, 0, p.Bytes(), nil), s)
	s.Log = append(s.Log[:1], log("ab")...)
	due(t, l.Save(s), api.OK)
	opened(t, p, state(4, 3, 1, 2, "Xab"))
	told := opened(t, p, state(4, 3, 1, 2, "Xab")).State()
	spare.SpoilLog(told.Log)
	due(t, l.Save(told), api.ErrState)
	checkState(t, l, state(4, 3, 1, 2, "Xab"))
}

// Rules that hold everywhere: what State tells is new memory, of a ledger that saved, and of one that was opened on what there was.
func TestStateMemory(t *testing.T) {
	for _, text := range letters {
		want := state(4, 3, len(text), 2, text)
		p, l := fresh(t, 1<<16)
		due(t, l.Save(want), api.OK)
		again := opened(t, p, want)
		for _, one := range []*ledger.Ledger{l, again} {
			checkApart(t, func() []pack.Entry { return one.State().Log })
			told := one.State()
			_ = append(told.Log, pack.Entry{View: 77})
			spare.SpoilLog(told.Log)
			checkState(t, one, want)
		}
		b := p.Bytes()
		due(t, again.Save(want), api.OK)
		checkTape(t, p, b, len(b), false)
	}
}

// Rules that hold everywhere: what State told stays, whatever is saved then.
func TestToldStays(t *testing.T) {
	_, l := fresh(t, 1<<16)
	due(t, l.Save(state(4, 3, 0, 2, "XYZ")), api.OK)
	told := l.State()
	was := spare.WholeLog(told.Log)
	due(t, l.Save(state(5, 5, 2, 2, "XYabc")), api.OK)
	due(t, l.Save(state(5, 5, 2, 2, "XY")), api.OK)
	kept(t, told.Log, was)
	if !same(told, state(4, 3, 0, 2, "XYZ")) {
		t.Fatalf("%+v", told)
	}
	due(t, l.Save(told), api.ErrState)
}

// Rules that hold everywhere: two ledgers on tapes of the same bytes share nothing.
func TestOpenMemory(t *testing.T) {
	b := inBytes(t, added('X'), added('Y'), cut(1), added('Z'))
	p, q := laid(t, 900, b, nil), laid(t, 900, b, nil)
	one, two := opened(t, p, state(0, 0, 0, 0, "XZ")), opened(t, q, state(0, 0, 0, 0, "XZ"))
	due(t, one.Save(state(0, 0, 0, 0, "Xa")), api.OK)
	due(t, two.Save(state(0, 0, 0, 0, "Xbc")), api.OK)
	checkState(t, one, state(0, 0, 0, 0, "Xa"))
	checkState(t, two, state(0, 0, 0, 0, "Xbc"))
	opened(t, p, state(0, 0, 0, 0, "Xa"))
	opened(t, q, state(0, 0, 0, 0, "Xbc"))
}
