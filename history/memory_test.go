package history_test

import (
	"reflect"
	"slices"
	"testing"

	"colander/api"
	"colander/history"
	"colander/pack"
	"colander/rule"
	"colander/spare"
)

// kept holds that an entry's lists and their spare room are as they were.
func kept(t *testing.T, e, was pack.Entry) {
	t.Helper()
	if !reflect.DeepEqual(spare.WholeEntry(e), was) {
		t.Fatalf("%+v, not %+v: changed, or shared", spare.WholeEntry(e), was)
	}
}

// steps are entries of all outcomes, and the sets of the versions that come of them.
func steps() ([]pack.Entry, []history.Outcome, []rule.Set) {
	entries := []pack.Entry{
		entry(1, 1, put([]rule.Rule{good(7, "d"), good(2, "e"), good(5, "f")})),
		entry(1, 1, put([]rule.Rule{good(8, "d")}, 2)),
		entry(1, 2, put([]rule.Rule{good(8, "d"), good(5, "(")}, 2)),
		entry(1, 3, put([]rule.Rule{good(8, "d")}, 3, 2)),
		entry(1, 4, put(nil)),
		entry(2, 1, put([]rule.Rule{good(9, "g"), good(5, "h")}, 7, 2)),
		entry(2, 2, put(nil, 9, 5)),
		entry(2, 3, put([]rule.Rule{good(1, "i")})),
		entry(2, 4, closes(7)),
	}
	outcomes := []history.Outcome{
		made(1), twice(), refused(api.ErrSyntax, 5, 0), refused(api.ErrNone, 0, 0), made(2), made(3), made(4), made(5), made(6),
	}
	last := with(good(1, "i"))
	last.Closed = 7
	first := with(good(2, "e"), good(5, "f"), good(7, "d"))
	return entries, outcomes, []rule.Set{rule.First(), first, first, with(good(5, "h"), good(9, "g")), rule.First(), with(good(1, "i")), last}
}

// Rules that hold everywhere: an entry that is handed in is neither changed nor kept, whatever comes of it.
func TestEntryMemory(t *testing.T) {
	h := history.New()
	entries, outcomes, sets := steps()
	for i, e := range entries {
		e = spare.Entry(e)
		was := spare.WholeEntry(e)
		checkAdd(t, h, e, outcomes[i])
		kept(t, e, was)
		for version := range h.Version() + 1 {
			told, _ := h.Set(version)
			spare.SpoilRules(told.Rules)
			kept(t, e, was)
		}
		spare.SpoilEntry(e)
		spoilt := spare.WholeEntry(e)
		checkSets(t, h, i+1, sets[:h.Version()+1]...)
		kept(t, e, spoilt)
	}
	for _, e := range wrongEntries() {
		e = spare.Entry(e)
		was := spare.WholeEntry(e)
		checkNoAdd(t, h, e)
		kept(t, e, was)
	}
	checkSets(t, h, len(entries), sets...)
}

// Rules that hold everywhere: a list that is handed in again and again, changed between, is another one for each version.
func TestEntryAgain(t *testing.T) {
	h := history.New()
	e := spare.Entry(entry(1, 1, puts(3, "a")))
	sets := []rule.Set{rule.First()}
	for _, pattern := range []string{"b", "c", "d", "(", "e"} {
		e.Request++
		e.Delta.Put[0].Pattern = pattern
		if pattern == "(" {
			checkAdd(t, h, e, refused(api.ErrSyntax, 3, 0))
			continue
		}
		checkAdd(t, h, e, made(len(sets)))
		sets = append(sets, with(good(3, pattern)))
	}
	checkSets(t, h, 5, sets...)
}

// Rules that hold everywhere: a set that is told is new memory: other answers, and the sets of other versions, stay when it is written over.
func TestSetMemory(t *testing.T) {
	entries, outcomes, sets := steps()
	for version := range sets {
		h := history.New()
		for i, e := range entries {
			checkAdd(t, h, e, outcomes[i])
			if version > h.Version() {
				continue
			}
			one, _ := h.Set(version)
			two, _ := h.Set(version)
			_ = append(one.Rules, spare.Rubbish())
			spare.SpoilRules(one.Rules)
			if !same(two, sets[version]) {
				t.Fatalf("two answers share: %+v", two)
			}
			checkSets(t, h, i+1, sets[:h.Version()+1]...)
		}
	}
}

// Rules that hold everywhere: what a version's set was told as stays, whatever comes then.
func TestToldStays(t *testing.T) {
	h := history.New()
	entries, outcomes, sets := steps()
	var told, was [][]rule.Rule
	for i, e := range entries {
		checkAdd(t, h, e, outcomes[i])
		for version := range h.Version() + 1 {
			s, _ := h.Set(version)
			told, was = append(told, s.Rules[:cap(s.Rules)]), append(was, slices.Clone(s.Rules[:cap(s.Rules)]))
		}
	}
	for i := range told {
		if !slices.Equal(told[i], was[i]) {
			t.Fatalf("%+v, not %+v", told[i], was[i])
		}
	}
	checkSets(t, h, len(entries), sets...)
}

// Rules that hold everywhere: two histories share nothing, also of the same entries.
func TestApart(t *testing.T) {
	one, two := history.New(), history.New()
	entries, outcomes, sets := steps()
	for i, e := range entries {
		checkAdd(t, one, e, outcomes[i])
		checkAdd(t, two, e, outcomes[i])
	}
	for version := range sets {
		told, _ := one.Set(version)
		spare.SpoilRules(told.Rules)
	}
	checkSets(t, two, len(entries), sets...)
	checkSets(t, one, len(entries), sets...)
}
