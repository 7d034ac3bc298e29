package history_test

import (
	"math/rand"
	"slices"
	"testing"

	"colander/api"
	"colander/history"
	"colander/pack"
	"colander/rule"
	"colander/verdict"
)

// What follows is the chapter a second time: no more is kept than the entries, and each thing is worked out of all of them each time it is asked.

// slow is a history that is no more than its entries.
type slow []pack.Entry

// outcome is that of the entry at a place, and the newest set behind it.
func (s slow) outcome(place int) (history.Outcome, []rule.Set) {
	sets := []rule.Set{rule.First()}
	o := history.Outcome{}
	for i, e := range s[:place+1] {
		was := slices.ContainsFunc(s[:i], func(p pack.Entry) bool { return p.Client == e.Client && p.Request >= e.Request })
		if was {
			o = history.Outcome{Verdict: verdict.Verdict{Code: api.ErrTwice}}
			continue
		}
		changed, v := verdict.Change(sets[len(sets)-1], e.Delta)
		o = history.Outcome{Verdict: v}
		if v == (verdict.Verdict{}) {
			o.Version = len(sets)
			sets = append(sets, changed)
		}
	}
	return o, sets
}

// last is the place of the entry that brought a client's greatest request; -1, if it has none.
func (s slow) last(client int) int {
	found := -1
	for i, e := range s {
		if e.Client == client && (found < 0 || e.Request > s[found].Request) {
			found = i
		}
	}
	return found
}

// checkSlow holds a history against the second way; the outcome is that of the newest entry.
func checkSlow(t *testing.T, h *history.History, s slow, newest history.Outcome, clients int) {
	t.Helper()
	want, sets := s.outcome(len(s) - 1)
	if newest != want {
		t.Fatalf("%+v: %+v, not %+v", s, newest, want)
	}
	checkSets(t, h, len(s), sets...)
	for client := range clients + 2 {
		place := s.last(client)
		if place < 0 {
			checkNoLast(t, h, client)
			continue
		}
		o, _ := s.outcome(place)
		checkLast(t, h, client, s[place].Request, o)
	}
}

// P14.1, P14.2: all lists of up to four entries of two clients, with three requests and three deltas (two of which may be refused).
func TestSmallSlow(t *testing.T) {
	deltas := []rule.Delta{puts(3, "a"), puts(4, "a("), put(nil, 3)}
	var all []pack.Entry
	for client := 1; client < 3; client++ {
		for request := 1; request < 4; request++ {
			for _, d := range deltas {
				all = append(all, entry(client, request, d))
			}
		}
	}
	lists := []slow{nil}
	for range 4 {
		var longer []slow
		for _, list := range lists {
			for _, e := range all {
				// The clients are alike, so the first entry is the first one's.
				if len(list) > 0 || e.Client == 1 {
					longer = append(longer, append(slices.Clone(list), e))
				}
			}
		}
		lists = longer
	}
	for _, list := range lists {
		h := history.New()
		o := history.Outcome{}
		for _, e := range list {
			o, _ = h.Add(e)
		}
		checkSlow(t, h, list, o, 2)
	}
}

// grown makes rules and deltas of few IDs, so that they meet.
type grown struct{ *rand.Rand }

// rule is one whose pattern mostly may be.
func (g grown) rule() rule.Rule {
	pattern := []string{"", "a+b", "(a)\\1", "(?<=a{32})b", "é|\xff", "[^a-z]"}[g.Intn(6)]
	if g.Intn(20) == 0 {
		pattern = []string{"(", "ab)", `a\q`, "[", "a**", "(?<=a*)", far, `\1`}[g.Intn(8)]
	}
	return rule.Rule{ID: 1 + g.Intn(30), Priority: g.Intn(1001), Action: g.Intn(256), Scope: 1 + g.Intn(65535), Pattern: pattern}
}

// delta drops what the set has, seldom what it hasn't.
func (g grown) delta(s rule.Set) rule.Delta {
	number := func(n int) int { return []int{-1, -1, -1, n}[g.Intn(4)] }
	d := rule.Delta{Default: number(g.Intn(258)), Closed: number(g.Intn(258)), Fuel: number(1 + g.Intn(api.MaxFuel)), Stack: number(g.Intn(4100))}
	used := map[int]bool{}
	for range g.Intn(7) {
		if r := g.rule(); !used[r.ID] || g.Intn(20) == 0 {
			d.Put = append(d.Put, r)
			used[r.ID] = true
		}
	}
	for _, r := range s.Rules {
		if !used[r.ID] && g.Intn(12) == 0 {
			d.Drop = append(d.Drop, r.ID)
		}
	}
	if g.Intn(20) == 0 {
		d.Drop = append(d.Drop, 1+g.Intn(30))
	}
	return d
}

// P14.1, P14.2: grown lists of entries of few clients, some of them not right.
func TestGrownSlow(t *testing.T) {
	g := grown{rand.New(rand.NewSource(14))}
	count := map[api.Errno]int{}
	wrong := wrongEntries()
	for range 150 {
		h, s := history.New(), slow{}
		clients, requests := 1+g.Intn(5), 1
		for range g.Intn(60) {
			if g.Intn(10) == 0 {
				checkNoAdd(t, h, wrong[g.Intn(len(wrong))])
				count[api.ErrForm]++
				continue
			}
			newest, _ := h.Set(h.Version())
			requests += g.Intn(3)
			e := pack.Entry{View: g.Intn(3), Client: 1 + g.Intn(clients), Request: max(1, requests-g.Intn(5)), Delta: g.delta(newest)}
			s = append(s, e)
			o, _ := h.Add(e)
			checkSlow(t, h, s, o, clients)
			count[o.Verdict.Code]++
		}
	}
	for _, e := range []api.Errno{
		api.OK, api.ErrForm, api.ErrRule, api.ErrTwice, api.ErrNone, api.ErrFull, api.ErrSyntax, api.ErrEscape, api.ErrClass, api.ErrRepeat, api.ErrRef, api.ErrWidth, api.ErrSize,
	} {
		if count[e] < 10 {
			t.Errorf("%d: %d times only", e, count[e])
		}
	}
}
