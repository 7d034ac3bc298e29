package history_test

import (
	"reflect"
	"slices"
	"testing"

	"colander/api"
	"colander/history"
	"colander/pack"
	"colander/rule"
)

var spoilt = rule.Rule{ID: 77, Priority: 77, Action: 77, Scope: 77, Pattern: "spoilt"}

// roomy is a list with spare room behind it, in which something stands.
func roomy[T any](list []T, spare T) []T {
	return append(slices.Clone(list), spare, spare, spare)[:len(list)]
}

// roomyEntry is an entry with spare room behind its lists.
func roomyEntry(e pack.Entry) pack.Entry {
	e.Delta.Put, e.Delta.Drop = roomy(e.Delta.Put, spoilt), roomy(e.Delta.Drop, 77)
	return e
}

// whole is a copy of an entry, and of all that stands in its lists' spare room.
func whole(e pack.Entry) pack.Entry {
	e.Delta.Put = slices.Clone(e.Delta.Put[:cap(e.Delta.Put)])
	e.Delta.Drop = slices.Clone(e.Delta.Drop[:cap(e.Delta.Drop)])
	return e
}

// spoil writes over a list and all its spare room.
func spoil[T any](list []T, with T) {
	for i := range list[:cap(list)] {
		list[:cap(list)][i] = with
	}
}

// spoilEntry writes over an entry's lists.
func spoilEntry(e pack.Entry) {
	spoil(e.Delta.Put, spoilt)
	spoil(e.Delta.Drop, 77)
}

// kept holds that an entry's lists and their spare room are as they were.
func kept(t *testing.T, e, was pack.Entry) {
	t.Helper()
	if !reflect.DeepEqual(whole(e), was) {
		t.Fatalf("%+v, not %+v: changed, or shared", whole(e), was)
	}
}

// steps are entries of all outcomes, and the sets of the versions that come of them.
func steps() ([]pack.Entry, []history.Outcome, []rule.Set) {
	entries := []pack.Entry{
		entry(1, 1, put([]rule.Rule{good(7, "d"), good(2, "e"), good(5, "f")})),
		entry(1, 1, put([]rule.Rule{good(8, "d")}, 2)),
		entry(1, 2, put([]rule.Rule{good(8, "d"), good(5, "(")}, 2)),
		entry(1, 3, put([]rule.Rule{good(8, "d")}, 3, 2)),
		entry(1, 4, put(nil)),
		entry(2, 1, put([]rule.Rule{good(9, "g"), good(5, "h")}, 7, 2)),
		entry(2, 2, put(nil, 9, 5)),
		entry(2, 3, put([]rule.Rule{good(1, "i")})),
		entry(2, 4, closes(7)),
	}
	outcomes := []history.Outcome{
		made(1), twice(), refused(api.ErrSyntax, 5, 0), refused(api.ErrNone, 0, 0), made(2), made(3), made(4), made(5), made(6),
	}
	last := with(good(1, "i"))
	last.Closed = 7
	first := with(good(2, "e"), good(5, "f"), good(7, "d"))
	return entries, outcomes, []rule.Set{rule.First(), first, first, with(good(5, "h"), good(9, "g")), rule.First(), with(good(1, "i")), last}
}

// Rules that hold everywhere: an entry that is handed in is neither changed nor kept, whatever comes of it.
func TestEntryMemory(t *testing.T) {
	h := history.New()
	entries, outcomes, sets := steps()
	for i, e := range entries {
		e = roomyEntry(e)
		was := whole(e)
		checkAdd(t, h, e, outcomes[i])
		kept(t, e, was)
		for version := range h.Version() + 1 {
			told, _ := h.Set(version)
			spoil(told.Rules, spoilt)
			kept(t, e, was)
		}
		spoilEntry(e)
		spoilt := whole(e)
		checkSets(t, h, i+1, sets[:h.Version()+1]...)
		kept(t, e, spoilt)
	}
	for _, e := range wrongEntries() {
		e = roomyEntry(e)
		was := whole(e)
		checkNoAdd(t, h, e)
		kept(t, e, was)
	}
	checkSets(t, h, len(entries), sets...)
}

// Rules that hold everywhere: a list that is handed in again and again, changed between, is another one for each version.
func TestEntryAgain(t *testing.T) {
	h := history.New()
	e := roomyEntry(entry(1, 1, puts(3, "a")))
	sets := []rule.Set{rule.First()}
	for _, pattern := range []string{"b", "c", "d", "(", "e"} {
		e.Request++
		e.Delta.Put[0].Pattern = pattern
		if pattern == "(" {
			checkAdd(t, h, e, refused(api.ErrSyntax, 3, 0))
			continue
		}
		checkAdd(t, h, e, made(len(sets)))
		sets = append(sets, with(good(3, pattern)))
	}
	checkSets(t, h, 5, sets...)
}

// Rules that hold everywhere: a set that is told is new memory: other answers, and the sets of other versions, stay when it is written over.
func TestSetMemory(t *testing.T) {
	entries, outcomes, sets := steps()
	for version := range sets {
		h := history.New()
		for i, e := range entries {
			checkAdd(t, h, e, outcomes[i])
			if version > h.Version() {
				continue
			}
			one, _ := h.Set(version)
			two, _ := h.Set(version)
			_ = append(one.Rules, spoilt)
			spoil(one.Rules, spoilt)
			if !same(two, sets[version]) {
				t.Fatalf("two answers share: %+v", two)
			}
			checkSets(t, h, i+1, sets[:h.Version()+1]...)
		}
	}
}

// Rules that hold everywhere: what a version's set was told as stays, whatever comes then.
func TestToldStays(t *testing.T) {
	h := history.New()
	entries, outcomes, sets := steps()
	var told, was [][]rule.Rule
	for i, e := range entries {
		checkAdd(t, h, e, outcomes[i])
		for version := range h.Version() + 1 {
			s, _ := h.Set(version)
			told, was = append(told, s.Rules[:cap(s.Rules)]), append(was, slices.Clone(s.Rules[:cap(s.Rules)]))
		}
	}
	for i := range told {
		if !slices.Equal(told[i], was[i]) {
			t.Fatalf("%+v, not %+v", told[i], was[i])
		}
	}
	checkSets(t, h, len(entries), sets...)
}

// Rules that hold everywhere: two histories share nothing, also of the same entries.
func TestApart(t *testing.T) {
	one, two := history.New(), history.New()
	entries, outcomes, sets := steps()
	for i, e := range entries {
		checkAdd(t, one, e, outcomes[i])
		checkAdd(t, two, e, outcomes[i])
	}
	for version := range sets {
		told, _ := one.Set(version)
		spoil(told.Rules, spoilt)
	}
	checkSets(t, two, len(entries), sets...)
	checkSets(t, one, len(entries), sets...)
}
