package sieve_test

import (
	"slices"
	"strings"
	"testing"

	"colander/api"
	"colander/rule"
	"colander/sieve"
	"colander/vm"
)

// What follows is the chapter a second time, by its own words: the rules are taken out of the set one by one, each program is made anew, and the positions are gone through here.

// slowFind is what Find tells of a pattern, put together of Run's answers.
func slowFind(t *testing.T, pattern, doc string, b vm.Budget) vm.Result {
	t.Helper()
	code, units := codeOf(t, pattern), unitsOf(doc)
	all := vm.Result{}
	for from := 0; from <= len(units) && all.Kind == 0; from++ {
		left := vm.Budget{Fuel: b.Fuel - all.Steps, Stack: b.Stack}
		if left.Fuel == 0 {
			all.Kind = 2
			break
		}
		r, e := vm.Run(code, units, from, left)
		if e != api.OK {
			t.Fatalf("%q in %q at %d: %d", pattern, doc, from, e)
		}
		all = vm.Result{Kind: r.Kind, Steps: all.Steps + r.Steps, Deep: max(all.Deep, r.Deep), Caps: r.Caps}
	}
	return all
}

// slowNext takes out the rule of the greatest priority, and of the least ID within one.
func slowNext(list []rule.Rule) (rule.Rule, []rule.Rule) {
	best := 0
	for i, r := range list {
		if r.Priority > list[best].Priority || r.Priority == list[best].Priority && r.ID < list[best].ID {
			best = i
		}
	}
	return list[best], append(slices.Clone(list[:best]), list[best+1:]...)
}

// slowClassify is what Classify is due to answer, and how many rules were looked for.
func slowClassify(t *testing.T, s rule.Set, doc string, scope int) (sieve.Answer, int) {
	t.Helper()
	if len(doc) > 2000 {
		return tooLarge, 0
	}
	looked := 0
	for list := s.Rules; len(list) > 0; {
		var r rule.Rule
		if r, list = slowNext(list); r.Scope&scope == 0 {
			continue
		}
		looked++
		switch slowFind(t, r.Pattern, doc, vm.Budget{Fuel: s.Fuel, Stack: s.Stack}).Kind {
		case 1:
			return says(r.Action, r.ID), looked
		case 2:
			return closes(s.Closed, r.ID), looked
		}
	}
	return says(s.Default, 0), looked
}

// grower makes sets and texts, the same ones each time.
type grower struct{ x uint32 }

func (g *grower) below(n int) int {
	g.x = g.x*1664525 + 1013904223
	return int(g.x>>8) % n
}

func (g *grower) one(of ...string) string { return of[g.below(len(of))] }

// pattern is mostly not found, so that more than one rule is looked for.
func (g *grower) pattern() string {
	return g.one("aab", "b{3}", "c", "(?i)C", "^a+$", `(a|b)\1{3}`, "a*c", endless, "(?:a*)*c", "\xff", "é", "(?<=b)c|ca", "[^a-c]", "(?>a*)bc", ".{12}", "aaaa", "", "(?:a?){8}c", `\bb\b`, "(?=b)a")
}

// text is of up to so many units; some texts are too large.
func (g *grower) text() string {
	text := ""
	for range g.below(10) {
		text += g.one("a", "a", "a", "b", "b", "c", "C", "-", "\xff", "\xc3", "é")
	}
	switch g.below(40) {
	case 0:
		return strings.Repeat("a", 1990) + text
	case 1:
		return strings.Repeat("é", 995+g.below(10)) + text
	case 2:
		return strings.Repeat("\xff", 1999) + g.one("", "a", "aa")
	}
	return text
}

// set has up to MaxRules rules of few priorities, scopes of up to three bits, and often a small budget.
func (g *grower) set() rule.Set {
	s := rule.Set{Default: g.below(256), Closed: g.below(256), Fuel: 1 + g.below([]int{20, 300, 20000}[g.below(3)]), Stack: g.below([]int{4, 30, 600}[g.below(3)])}
	id := 0
	for range g.below(api.MaxRules + 1) {
		id += 1 + g.below(3)
		s.Rules = append(s.Rules, rule.Rule{ID: id, Priority: g.below(4) * 300, Action: g.below(256), Scope: 1<<g.below(16) | 1<<g.below(3) | 1<<g.below(3), Pattern: g.pattern()})
	}
	return s
}

// scope is mostly one or two bits.
func (g *grower) scope() int {
	switch g.below(8) {
	case 0:
		return -1
	case 1:
		return 1 << g.below(20)
	}
	return 1<<g.below(3) | 1<<g.below(16)
}

// P9.2 and P9.3: many sets and texts.
func TestGrown(t *testing.T) {
	g := &grower{7}
	told := map[sieve.Answer]int{}
	behind := 0
	for range 4000 {
		s := g.set()
		v := made(t, s)
		for range 6 {
			doc, scope := g.text(), g.scope()
			want, looked := slowClassify(t, s, doc, scope)
			checkSays(t, v, doc, scope, want)
			told[sieve.Answer{Kind: want.Kind, Rule: min(want.Rule, 1), Budget: want.Budget}]++
			if looked > 2 && want.Rule > 0 {
				behind++
			}
			checkMatchSlow(t, v, s, 1+g.below(34), doc)
		}
		if !same(v.Set(), s) {
			t.Fatalf("%+v, not %+v", v.Set(), s)
		}
	}
	if len(told) != 4 || behind < 1000 {
		t.Errorf("%v, behind others %d", told, behind)
	}
	for of, times := range told {
		if times < 500 {
			t.Errorf("%+v came %d times", of, times)
		}
	}
}

// checkMatchSlow holds what Match tells against the words of P9.3, one after the other.
func checkMatchSlow(t *testing.T, v *sieve.Sieve, s rule.Set, id int, doc string) {
	t.Helper()
	r, ok := s.Rule(id)
	switch {
	case !ok:
		checkMatch(t, v, id, doc, vm.Result{}, api.ErrNone)
	case len(doc) > 2000:
		checkMatch(t, v, id, doc, vm.Result{}, api.ErrBig)
	default:
		checkMatch(t, v, id, doc, slowFind(t, r.Pattern, doc, vm.Budget{Fuel: s.Fuel, Stack: s.Stack}), api.OK)
	}
}

// P9.2: an answer without Budget is what the greatest budget says, too: so it is what the first rule that is found says, or the Default.
func TestMoreBudget(t *testing.T) {
	g := &grower{11}
	without := 0
	for range 4000 {
		s := g.set()
		v := made(t, s)
		doc, scope := g.text(), g.scope()
		got := v.Classify([]byte(doc), scope)
		if got.Budget {
			if got.Action != s.Closed || got.Rule == 0 {
				t.Fatalf("%+v: %+v", s, got)
			}
			continue
		}
		without++
		s.Fuel, s.Stack = api.MaxFuel, api.MaxStack
		checkSays(t, made(t, s), doc, scope, got)
	}
	if without < 1000 {
		t.Errorf("only %d", without)
	}
}
