package history_test

import (
	"math"
	"slices"
	"strings"
	"testing"

	"colander/api"
	"colander/history"
	"colander/pack"
	"colander/rule"
	"colander/verdict"
)

// The chapter's type, field by field, and its functions, as it lists them.
var (
	_ = struct {
		Version int
		Verdict verdict.Verdict
	}(history.Outcome{})
	_ func() *history.History                                                        = history.New
	_ func(*history.History, pack.Entry) (history.Outcome, api.Errno)                = (*history.History).Add
	_ func(*history.History) int                                                     = (*history.History).Version
	_ func(h *history.History, version int) (rule.Set, bool)                         = (*history.History).Set
	_ func(h *history.History, client int) (request int, o history.Outcome, ok bool) = (*history.History).Last
	_ func(*history.History) int                                                     = (*history.History).Len
)

const most = api.MaxNumber

// far is a pattern of more than api.MaxProgram instructions.
const far = "(?:a{64}){64}"

// good is a right rule with this pattern.
func good(id int, pattern string) rule.Rule {
	return rule.Rule{ID: id, Priority: 10, Action: 9, Scope: 1, Pattern: pattern}
}

// put is a delta that puts and drops alone.
func put(list []rule.Rule, drop ...int) rule.Delta {
	return rule.Delta{Default: -1, Closed: -1, Fuel: -1, Stack: -1, Put: list, Drop: drop}
}

// puts is a delta that puts one rule.
func puts(id int, pattern string) rule.Delta { return put([]rule.Rule{good(id, pattern)}) }

// closes is a delta that sets Closed alone.
func closes(n int) rule.Delta { return rule.Delta{Default: -1, Closed: n, Fuel: -1, Stack: -1} }

// entry is one of a client's requests.
func entry(client, request int, d rule.Delta) pack.Entry {
	return pack.Entry{View: 1, Client: client, Request: request, Delta: d}
}

// with is the first set with these rules.
func with(list ...rule.Rule) rule.Set {
	s := rule.First()
	s.Rules = list
	return s
}

// closedAt is the first set with another Closed.
func closedAt(n int) rule.Set {
	s := rule.First()
	s.Closed = n
	return s
}

// made is the outcome of an entry that made a version.
func made(version int) history.Outcome { return history.Outcome{Version: version} }

// refused is the outcome of an entry that made none.
func refused(code api.Errno, id, at int) history.Outcome {
	return history.Outcome{Verdict: verdict.Verdict{Code: code, Rule: id, At: at}}
}

// twice is the outcome of an entry that came too late.
func twice() history.Outcome { return refused(api.ErrTwice, 0, 0) }

// same takes nil and empty lists as one.
func same(s, o rule.Set) bool {
	return s.Default == o.Default && s.Closed == o.Closed && s.Fuel == o.Fuel && s.Stack == o.Stack && slices.Equal(s.Rules, o.Rules)
}

// checkAdd holds what came of a right entry.
func checkAdd(t *testing.T, h *history.History, e pack.Entry, want history.Outcome) {
	t.Helper()
	if got, err := h.Add(e); err != api.OK || got != want {
		t.Fatalf("%+v: %+v %d, not %+v", e, got, err, want)
	}
}

// checkNoAdd holds that an entry isn't right, and that nothing is told beside that.
func checkNoAdd(t *testing.T, h *history.History, e pack.Entry) {
	t.Helper()
	if got, err := h.Add(e); err != api.ErrForm || got != (history.Outcome{}) {
		t.Fatalf("%+v: %+v %d, not ErrForm", e, got, err)
	}
}

// checkSet holds a version's set.
func checkSet(t *testing.T, h *history.History, version int, want rule.Set) {
	t.Helper()
	if got, ok := h.Set(version); !ok || !same(got, want) {
		t.Fatalf("the version %d: %+v %v, not %+v", version, got, ok, want)
	}
}

// checkNoSet holds that there is no such version, and that nothing is told beside that.
func checkNoSet(t *testing.T, h *history.History, version int) {
	t.Helper()
	if got, ok := h.Set(version); ok || !same(got, rule.Set{}) {
		t.Fatalf("the version %d: %+v %v", version, got, ok)
	}
}

// checkSets holds how many entries and versions there are, and the set of each version.
func checkSets(t *testing.T, h *history.History, entries int, sets ...rule.Set) {
	t.Helper()
	if h.Len() != entries || h.Version() != len(sets)-1 {
		t.Fatalf("%d entries and the version %d, not %d and %d", h.Len(), h.Version(), entries, len(sets)-1)
	}
	for version, want := range sets {
		checkSet(t, h, version, want)
	}
	for _, version := range []int{-1, -2, math.MinInt, len(sets), len(sets) + 1, math.MaxInt} {
		checkNoSet(t, h, version)
	}
}

// checkLast holds a client's greatest request, and its outcome.
func checkLast(t *testing.T, h *history.History, client, want int, due history.Outcome) {
	t.Helper()
	if request, o, ok := h.Last(client); !ok || request != want || o != due {
		t.Fatalf("the client %d: %d %+v %v, not %d %+v", client, request, o, ok, want, due)
	}
}

// checkNoLast holds that clients have no entry, and that nothing is told beside that.
func checkNoLast(t *testing.T, h *history.History, clients ...int) {
	t.Helper()
	for _, client := range clients {
		if request, o, ok := h.Last(client); ok || request != 0 || o != (history.Outcome{}) {
			t.Fatalf("the client %d: %d %+v %v", client, request, o, ok)
		}
	}
}

// anybody are clients of all kinds, also those that can have no entry.
var anybody = []int{math.MinInt, -1, 0, 1, 2, 3, 7, most - 1, most, most + 1, math.MaxInt}

// The chapter's examples, which are those of the whole too: a version, the same again, a pattern that isn't one.
func TestExamples(t *testing.T) {
	h := history.New()
	checkAdd(t, h, entry(1, 1, puts(3, "a")), made(1))
	checkAdd(t, h, entry(1, 1, puts(3, "a")), twice())
	checkAdd(t, h, entry(1, 2, puts(4, "(")), refused(api.ErrSyntax, 4, 0))
	checkSets(t, h, 3, rule.First(), with(good(3, "a")))
	checkLast(t, h, 1, 2, refused(api.ErrSyntax, 4, 0))
}

// P14.1, P14.2: a history without entries has the version 0, the first set, and no client.
func TestNew(t *testing.T) {
	h, other := history.New(), history.New()
	checkSets(t, h, 0, rule.Set{Default: 0, Closed: 255, Fuel: 10000, Stack: 500})
	checkNoLast(t, h, anybody...)
	checkAdd(t, other, entry(1, 1, puts(3, "a")), made(1))
	checkSets(t, h, 0, rule.First())
	checkNoLast(t, h, anybody...)
	checkSets(t, history.New(), 0, rule.First())
}

// wrongEntries have one part each that may not be.
func wrongEntries() []pack.Entry {
	list := []pack.Entry{{}}
	add := func(wrong func(e *pack.Entry)) {
		e := entry(5, 5, put([]rule.Rule{good(7, "z")}, 3))
		wrong(&e)
		list = append(list, e)
	}
	for _, n := range []int{-1, most + 1, math.MinInt, math.MaxInt} {
		add(func(e *pack.Entry) { e.View = n })
		for _, no := range []int{0, n} {
			add(func(e *pack.Entry) { e.Client = no })
			add(func(e *pack.Entry) { e.Request = no })
			add(func(e *pack.Entry) { e.Delta.Drop = []int{no} })
			add(func(e *pack.Entry) { e.Delta.Drop = []int{3, no} })
			add(func(e *pack.Entry) { e.Delta.Put[0].ID = no })
		}
		for _, below := range []int{min(n, -2), max(n, most+1)} {
			add(func(e *pack.Entry) { e.Delta.Default = below })
			add(func(e *pack.Entry) { e.Delta.Closed = below })
			add(func(e *pack.Entry) { e.Delta.Fuel = below })
			add(func(e *pack.Entry) { e.Delta.Stack = below })
		}
	}
	for _, r := range []rule.Rule{
		{}, {ID: 7}, {ID: 7, Scope: 65536}, {ID: 7, Scope: -1}, {ID: 7, Scope: 1, Priority: -1}, {ID: 7, Scope: 1, Priority: 1001},
		{ID: 7, Scope: 1, Action: -1}, {ID: 7, Scope: 1, Action: 256}, good(7, strings.Repeat("a", 257)),
	} {
		add(func(e *pack.Entry) { e.Delta.Put = []rule.Rule{r} })
		add(func(e *pack.Entry) { e.Delta.Put = append(e.Delta.Put, r) })
	}
	add(func(e *pack.Entry) { e.Delta.Put = rising(1, 17) })
	add(func(e *pack.Entry) { e.Delta.Drop = slices.Repeat([]int{3}, 17) })
	return list
}

// rising are so many right rules, from an ID on.
func rising(id, many int) []rule.Rule {
	var list []rule.Rule
	for range many {
		list = append(list, good(id, "a"))
		id++
	}
	return list
}

// P14.1: an entry that isn't right is told so, and changes nothing: neither a count, nor a version, nor a client.
func TestWrongEntries(t *testing.T) {
	for _, e := range wrongEntries() {
		h := history.New()
		checkNoAdd(t, h, e)
		checkSets(t, h, 0, rule.First())
		checkNoLast(t, h, append(anybody, 5, e.Client)...)

		checkAdd(t, h, entry(1, 1, puts(3, "a")), made(1))
		checkAdd(t, h, entry(5, 4, puts(4, "(")), refused(api.ErrSyntax, 4, 0))
		checkNoAdd(t, h, e)
		checkNoAdd(t, h, e)
		checkSets(t, h, 2, rule.First(), with(good(3, "a")))
		checkLast(t, h, 1, 1, made(1))
		checkLast(t, h, 5, 4, refused(api.ErrSyntax, 4, 0))
		checkNoLast(t, h, 0, -1, 2, most, most+1)

		// The request that wasn't taken can still come.
		checkAdd(t, h, entry(5, 5, put([]rule.Rule{good(7, "z")}, 3)), made(2))
		checkSets(t, h, 3, rule.First(), with(good(3, "a")), with(good(7, "z")))
	}
}

// P14.1: ErrForm is told of an entry that isn't right also where its request was there.
func TestWrongAheadOfTwice(t *testing.T) {
	h := history.New()
	checkAdd(t, h, entry(5, 5, closes(7)), made(1))
	wrong := entry(5, 5, closes(8))
	wrong.View = -1
	checkNoAdd(t, h, wrong)
	wrong.View, wrong.Request = 1, -5
	checkNoAdd(t, h, wrong)
	checkSets(t, h, 1, rule.First(), closedAt(7))
}

// P14.1: entries at the ends of what they may be.
func TestEnds(t *testing.T) {
	whole := strings.Repeat("a", 256)
	for _, e := range []pack.Entry{
		{View: 0, Client: 1, Request: 1, Delta: closes(0)}, {View: most, Client: most, Request: most, Delta: closes(255)},
		{View: 0, Client: most, Request: 1, Delta: rule.Delta{Default: 0, Closed: 0, Fuel: 1, Stack: 0}},
		{View: most, Client: 1, Request: most, Delta: rule.Delta{Default: 255, Closed: 255, Fuel: api.MaxFuel, Stack: api.MaxStack}},
		entry(1, 1, put([]rule.Rule{{ID: 1, Scope: 1}, {ID: most, Priority: 1000, Action: 255, Scope: 65535, Pattern: whole}})),
		entry(1, 1, put(rising(1, 16))), entry(1, 1, put(nil)),
	} {
		h := history.New()
		set, v := verdict.Change(rule.First(), e.Delta)
		if v.Code != api.OK {
			t.Fatal(v)
		}
		checkAdd(t, h, e, made(1))
		checkSets(t, h, 1, rule.First(), set)
		checkLast(t, h, e.Client, e.Request, made(1))
		checkNoLast(t, h, e.Client-1, e.Client+1)
	}
}

// P14.1: a delta of a right entry whose number no set may have, or that names too many IDs, is layer 7's to refuse: the entry stands.
func TestRightByNumbersAlone(t *testing.T) {
	many := slices.Repeat([]int{most}, 16)
	for e, list := range map[api.Errno][]rule.Delta{
		api.ErrRule: {
			{Default: 256, Closed: -1, Fuel: -1, Stack: -1}, {Default: most, Closed: -1, Fuel: -1, Stack: -1}, {Default: -1, Closed: 256, Fuel: -1, Stack: -1},
			{Default: -1, Closed: most, Fuel: -1, Stack: -1}, {Default: -1, Closed: -1, Fuel: 0, Stack: -1}, {Default: -1, Closed: -1, Fuel: api.MaxFuel + 1, Stack: -1},
			{Default: -1, Closed: -1, Fuel: -1, Stack: api.MaxStack + 1}, {Default: -1, Closed: -1, Fuel: -1, Stack: most}, {},
		},
		api.ErrTwice: {put(nil, many...), put([]rule.Rule{good(3, "("), good(3, "a")}), put([]rule.Rule{good(3, "(")}, 3)},
		api.ErrNone:  {put(nil, 1), put(nil, most), put([]rule.Rule{good(3, "(")}, 4)},
	} {
		for _, d := range list {
			h := history.New()
			checkAdd(t, h, entry(5, 5, d), refused(e, 0, 0))
			checkSets(t, h, 1, rule.First())
			checkLast(t, h, 5, 5, refused(e, 0, 0))
			checkAdd(t, h, entry(5, 5, closes(7)), twice())
			checkAdd(t, h, entry(5, 6, closes(7)), made(1))
			checkSets(t, h, 3, rule.First(), closedAt(7))
		}
	}
}

// P14.1: a set that would have too many rules.
func TestFull(t *testing.T) {
	h := history.New()
	checkAdd(t, h, entry(1, 1, put(rising(1, 10))), made(1))
	checkAdd(t, h, entry(1, 2, put(rising(11, 7))), refused(api.ErrFull, 0, 0))
	checkAdd(t, h, entry(1, 3, put(rising(11, 6))), made(2))
	checkAdd(t, h, entry(1, 4, puts(17, "(")), refused(api.ErrFull, 0, 0))
	checkAdd(t, h, entry(1, 5, put(rising(17, 1), 1)), made(3))
	checkAdd(t, h, entry(1, 6, put(rising(2, 16))), made(4))
	checkSets(t, h, 6, rule.First(), with(rising(1, 10)...), with(rising(1, 16)...), with(rising(2, 16)...), with(rising(2, 16)...))
}

// P14.1: patterns that may not be, with the rule and the byte: layer 3's faults, and layer 4's errors, which are at 0.
func TestPatterns(t *testing.T) {
	for text, v := range map[string]verdict.Verdict{
		"(": {Code: api.ErrSyntax}, "ab)": {Code: api.ErrSyntax, At: 2}, `ab\q`: {Code: api.ErrEscape, At: 2}, "x[b-a]": {Code: api.ErrClass, At: 2}, "a**": {Code: api.ErrRepeat, At: 2},
		strings.Repeat("()", 10): {Code: api.ErrGroup, At: 18}, strings.Repeat("(?:", 33): {Code: api.ErrDeep, At: 96}, `(a)\1\2`: {Code: api.ErrRef, At: 5},
		"a(?<=a*)b": {Code: api.ErrWidth}, far: {Code: api.ErrSize}, strings.Repeat("a", 255) + `\`: {Code: api.ErrEscape, At: 255},
	} {
		h := history.New()
		checkAdd(t, h, entry(1, 1, puts(5, "b")), made(1))
		checkAdd(t, h, entry(1, 2, puts(9, text)), refused(v.Code, 9, v.At))
		checkAdd(t, h, entry(2, 9, puts(5, text)), refused(v.Code, 5, v.At))
		checkAdd(t, h, entry(2, 10, put([]rule.Rule{good(most, text), good(6, "c")}, 5)), refused(v.Code, most, v.At))
		checkSets(t, h, 4, rule.First(), with(good(5, "b")))
		checkLast(t, h, 1, 2, refused(v.Code, 9, v.At))
		checkLast(t, h, 2, 10, refused(v.Code, most, v.At))
		checkAdd(t, h, entry(1, 3, puts(9, "c")), made(2))
		checkSets(t, h, 5, rule.First(), with(good(5, "b")), with(good(5, "b"), good(9, "c")))
	}
}

// P14.1: of several patterns that may not be the one with the least ID is told, and layer 7's errors are told ahead of them.
func TestFirstRule(t *testing.T) {
	h := history.New()
	checkAdd(t, h, entry(1, 1, put([]rule.Rule{good(7, "ab)"), good(3, "a"), good(5, "x[b-a]"), good(6, "(")})), refused(api.ErrClass, 5, 2))
	checkAdd(t, h, entry(1, 2, put([]rule.Rule{good(7, "ab)"), good(4, far)})), refused(api.ErrSize, 4, 0))
	checkAdd(t, h, entry(1, 3, put([]rule.Rule{good(7, "ab)"), good(7, "a")})), refused(api.ErrTwice, 0, 0))
	checkAdd(t, h, entry(1, 4, put([]rule.Rule{good(7, "ab)")}, 8)), refused(api.ErrNone, 0, 0))
	checkSets(t, h, 4, rule.First())
}

// P14.1: an entry whose client had its Request, or a greater one, comes too late, whatever its delta and view; one with a greater Request is taken.
func TestTwice(t *testing.T) {
	h := history.New()
	checkAdd(t, h, entry(1, 10, closes(1)), made(1))
	for _, request := range []int{10, 9, 1, 10} {
		for _, d := range []rule.Delta{closes(1), closes(2), puts(3, "("), put(nil, 4), {}} {
			for _, view := range []int{0, 1, most} {
				checkAdd(t, h, pack.Entry{View: view, Client: 1, Request: request, Delta: d}, twice())
			}
		}
	}
	checkSets(t, h, 61, rule.First(), closedAt(1))
	checkLast(t, h, 1, 10, made(1))
	checkAdd(t, h, entry(1, 11, closes(2)), made(2))
	checkAdd(t, h, entry(1, 10, closes(3)), twice())
	checkAdd(t, h, entry(1, 11, closes(3)), twice())
	checkAdd(t, h, pack.Entry{View: 0, Client: 1, Request: 5000, Delta: closes(3)}, made(3))
	checkAdd(t, h, entry(1, 4999, closes(4)), twice())
	checkAdd(t, h, entry(1, most, closes(4)), made(4))
	checkAdd(t, h, entry(1, most, closes(5)), twice())
	checkSets(t, h, 68, rule.First(), closedAt(1), closedAt(2), closedAt(3), closedAt(4))
}

// P14.1: each client's requests are its own.
func TestClients(t *testing.T) {
	h := history.New()
	checkAdd(t, h, entry(1, 5, closes(1)), made(1))
	checkAdd(t, h, entry(2, 5, closes(2)), made(2))
	checkAdd(t, h, entry(3, 4, puts(9, "(")), refused(api.ErrSyntax, 9, 0))
	checkAdd(t, h, entry(most, 1, closes(3)), made(3))
	checkAdd(t, h, entry(2, 4, closes(4)), twice())
	checkAdd(t, h, entry(1, 6, closes(4)), made(4))
	checkAdd(t, h, entry(2, 6, closes(5)), made(5))
	checkAdd(t, h, entry(1, 6, closes(6)), twice())
	checkAdd(t, h, entry(3, 4, closes(6)), twice())
	checkAdd(t, h, entry(3, 5, closes(6)), made(6))
	checkAdd(t, h, entry(most, 1, closes(7)), twice())
	checkLast(t, h, 1, 6, made(4))
	checkLast(t, h, 2, 6, made(5))
	checkLast(t, h, 3, 5, made(6))
	checkLast(t, h, most, 1, made(3))
	checkNoLast(t, h, 0, -1, 4, most-1, most+1)
	checkSets(t, h, 11, rule.First(), closedAt(1), closedAt(2), closedAt(3), closedAt(4), closedAt(5), closedAt(6))
}

// P14.1: a request is taken once also where its verdict wasn't OK, with layer 7's ErrTwice, too, which looks like that of a request that was there.
func TestTwiceBehindRefused(t *testing.T) {
	for _, c := range []struct {
		d rule.Delta
		o history.Outcome
	}{
		{puts(4, "a("), refused(api.ErrSyntax, 4, 1)}, {puts(4, far), refused(api.ErrSize, 4, 0)}, {put(nil, 4), refused(api.ErrNone, 0, 0)},
		{rule.Delta{}, refused(api.ErrRule, 0, 0)}, {put(nil, 4, 4), twice()},
	} {
		h := history.New()
		checkAdd(t, h, entry(1, 3, closes(7)), made(1))
		checkAdd(t, h, entry(1, 6, c.d), c.o)
		checkLast(t, h, 1, 6, c.o)
		for _, request := range []int{6, 5, 4, 3, 1} {
			checkAdd(t, h, entry(1, request, closes(8)), twice())
			checkLast(t, h, 1, 6, c.o)
		}
		checkSets(t, h, 7, rule.First(), closedAt(7))
		checkAdd(t, h, entry(1, 7, closes(8)), made(2))
		checkLast(t, h, 1, 7, made(2))
		checkSets(t, h, 8, rule.First(), closedAt(7), closedAt(8))
	}
}

// P14.1: each version comes of the newest one, and has the next number, whatever was refused between; a delta that changes nothing makes one, too.
func TestVersions(t *testing.T) {
	h := history.New()
	sets := []rule.Set{rule.First()}
	for n, step := range []struct {
		d rule.Delta
		s rule.Set
	}{
		{puts(5, "a"), with(good(5, "a"))},
		{puts(3, "b"), with(good(3, "b"), good(5, "a"))},
		{put(nil), with(good(3, "b"), good(5, "a"))},
		{puts(5, "c"), with(good(3, "b"), good(5, "c"))},
		{put([]rule.Rule{good(9, "d"), good(1, "e")}, 3), with(good(1, "e"), good(5, "c"), good(9, "d"))},
		{rule.Delta{Default: 1, Closed: 2, Fuel: 3, Stack: 4}, rule.Set{Default: 1, Closed: 2, Fuel: 3, Stack: 4, Rules: []rule.Rule{good(1, "e"), good(5, "c"), good(9, "d")}}},
		{put(nil, 9, 1, 5), rule.Set{Default: 1, Closed: 2, Fuel: 3, Stack: 4}},
		{puts(5, "a"), rule.Set{Default: 1, Closed: 2, Fuel: 3, Stack: 4, Rules: []rule.Rule{good(5, "a")}}},
	} {
		before := 4 * n
		checkSets(t, h, before, sets...)
		checkAdd(t, h, entry(1, before+1, puts(7, "(")), refused(api.ErrSyntax, 7, 0))
		checkSets(t, h, before+1, sets...)
		checkAdd(t, h, entry(1, before+2, put(nil, 700)), refused(api.ErrNone, 0, 0))
		checkSets(t, h, before+2, sets...)
		checkAdd(t, h, entry(1, before+2, closes(9)), twice())
		checkSets(t, h, before+3, sets...)
		sets = append(sets, step.s)
		checkAdd(t, h, entry(1, before+3, step.d), made(n+1))
		checkSets(t, h, before+4, sets...)
	}
}

// P14.2: what Last tells of a client without entries, with one, and with several.
func TestLast(t *testing.T) {
	h := history.New()
	checkNoLast(t, h, anybody...)
	checkAdd(t, h, entry(7, 2, closes(1)), made(1))
	checkNoLast(t, h, 6, 8, 1, 2)
	checkLast(t, h, 7, 2, made(1))
	checkAdd(t, h, entry(8, 2, puts(4, "a)")), refused(api.ErrSyntax, 4, 1))
	checkLast(t, h, 8, 2, refused(api.ErrSyntax, 4, 1))
	checkAdd(t, h, entry(7, 4, closes(2)), made(2))
	checkLast(t, h, 7, 4, made(2))
	checkLast(t, h, 8, 2, refused(api.ErrSyntax, 4, 1))

	// What came too late, with the same Request or a lesser one, isn't what is told.
	checkAdd(t, h, entry(7, 4, closes(3)), twice())
	checkLast(t, h, 7, 4, made(2))
	checkAdd(t, h, entry(7, 3, puts(4, "(")), twice())
	checkLast(t, h, 7, 4, made(2))
	checkAdd(t, h, entry(8, 1, closes(3)), twice())
	checkLast(t, h, 8, 2, refused(api.ErrSyntax, 4, 1))

	// A greater Request is told also where its verdict isn't OK, and the version ahead of it isn't told with it.
	checkAdd(t, h, entry(7, 5, put(nil, 4)), refused(api.ErrNone, 0, 0))
	checkLast(t, h, 7, 5, refused(api.ErrNone, 0, 0))
	checkAdd(t, h, entry(8, 3, closes(3)), made(3))
	checkLast(t, h, 8, 3, made(3))
	checkLast(t, h, 7, 5, refused(api.ErrNone, 0, 0))
	checkNoLast(t, h, 6, 9, 0)
	checkSets(t, h, 8, rule.First(), closedAt(1), closedAt(2), closedAt(3))
}

// P14.1, P14.2: a history goes on beyond what a log may have, with versions and clients.
func TestMany(t *testing.T) {
	h := history.New()
	sets := []rule.Set{rule.First()}
	for n := range 1000 {
		checkAdd(t, h, entry(n+1, 1, closes(n%256)), made(n+1))
		sets = append(sets, closedAt(n%256))
	}
	checkSets(t, h, 1000, sets...)
	for n := range 1000 {
		checkLast(t, h, n+1, 1, made(n+1))
		checkAdd(t, h, entry(n+1, 1, closes(3)), twice())
	}
	checkNoLast(t, h, 0, 1001)
	checkSets(t, h, 2000, sets...)
}

// P14.2: what asks changes nothing, however often it is asked.
func TestAskedAgain(t *testing.T) {
	h := history.New()
	checkAdd(t, h, entry(1, 1, puts(3, "a")), made(1))
	checkAdd(t, h, entry(2, 4, puts(3, "(")), refused(api.ErrSyntax, 3, 0))
	for range 3 {
		checkSets(t, h, 2, rule.First(), with(good(3, "a")))
		checkNoLast(t, h, 0, 3, -1)
		checkLast(t, h, 1, 1, made(1))
		checkLast(t, h, 2, 4, refused(api.ErrSyntax, 3, 0))
	}
	checkAdd(t, h, entry(3, 1, closes(7)), made(2))
}

// Rules that hold everywhere: histories keep nothing with one another; the same entries bring the same outcomes.
func TestTwoHistories(t *testing.T) {
	one, two := history.New(), history.New()
	checkAdd(t, one, entry(1, 5, puts(3, "a")), made(1))
	checkAdd(t, two, entry(1, 4, closes(7)), made(1))
	checkAdd(t, one, entry(1, 6, put(nil, 3)), made(2))
	checkAdd(t, two, entry(1, 5, put(nil, 3)), refused(api.ErrNone, 0, 0))
	checkLast(t, one, 1, 6, made(2))
	checkLast(t, two, 1, 5, refused(api.ErrNone, 0, 0))
	checkSets(t, one, 2, rule.First(), with(good(3, "a")), rule.First())
	checkSets(t, two, 2, rule.First(), closedAt(7))
}
