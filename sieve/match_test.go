package sieve_test

import (
	"math"
	"slices"
	"strings"
	"testing"

	"colander/api"
	"colander/parse"
	"colander/prog"
	"colander/rule"
	"colander/sieve"
	"colander/unit"
	"colander/vm"
)

// codeOf is the program of a pattern that must have one.
func codeOf(t *testing.T, pattern string) []prog.Inst {
	t.Helper()
	p, f := parse.Parse(pattern)
	code, e := prog.Compile(p)
	if f != (parse.Fault{}) || e != api.OK {
		t.Fatalf("%q: %+v %d", pattern, f, e)
	}
	return code
}

// unitsOf is a text's units.
func unitsOf(doc string) []int { return unit.Split([]byte(doc)) }

// due is what Find tells of a pattern in a text.
func due(t *testing.T, pattern, doc string, b vm.Budget) (vm.Result, api.Errno) {
	t.Helper()
	return vm.Find(codeOf(t, pattern), unitsOf(doc), b)
}

// checkMatch holds what Match tells against what is due.
func checkMatch(t *testing.T, v *sieve.Sieve, id int, doc string, want vm.Result, wantE api.Errno) {
	t.Helper()
	if got, e := v.Match(id, []byte(doc)); e != wantE || !sameResult(got, want) {
		t.Fatalf("the rule %d in %.60q: %+v %d, not %+v %d", id, doc, got, e, want, wantE)
	}
}

// P9.3: what is told of simple patterns, number by number.
func TestMatch(t *testing.T) {
	caps := func(ends ...int) []int { return append(ends, slices.Repeat([]int{-1}, 20-len(ends))...) }
	s := with(good(1, "a"), good(5, "(a|ab)(c|bcd)"), good(9, endless))
	s.Fuel, s.Stack = 200, 60
	v := made(t, s)
	checkMatch(t, v, 1, "a", vm.Result{Kind: 1, Steps: 4, Caps: caps(0, 1)}, api.OK)
	checkMatch(t, v, 1, "b", vm.Result{Steps: 4}, api.OK)
	checkMatch(t, v, 1, "", vm.Result{Steps: 2}, api.OK)
	checkMatch(t, v, 1, "\xffa", vm.Result{Kind: 1, Steps: 6, Caps: caps(1, 2)}, api.OK)
	checkMatch(t, v, 1, strings.Repeat("b", 99), vm.Result{Steps: 200}, api.OK)
	checkMatch(t, v, 1, strings.Repeat("b", 100), vm.Result{Kind: 2, Steps: 200}, api.OK)
	checkMatch(t, v, 5, "xabcd", vm.Result{Kind: 1, Steps: 20, Deep: 2, Caps: caps(1, 5, 1, 2, 2, 5)}, api.OK)
	checkMatch(t, v, 9, "b", vm.Result{Kind: 1, Steps: 9, Deep: 2, Caps: caps(0, 1)}, api.OK)
	if r, e := v.Match(9, []byte(dear)); e != api.OK || r.Kind != 2 || r.Steps != 200 || len(r.Caps) != 0 {
		t.Errorf("%+v %d", r, e)
	}
}

// P9.3: of an ID that isn't there ErrNone, whatever the text is, also one that is too large.
func TestErrNone(t *testing.T) {
	docs := []string{"", "a", dear, strings.Repeat("a", 2000), strings.Repeat("a", 2001), strings.Repeat("\xff", 1<<20)}
	for _, c := range []struct {
		s    rule.Set
		none []int
	}{
		{with(), []int{0, 1, 2, 5, most}}, {with(good(5, "a")), []int{0, 1, 4, 6, -5, 5 + 1<<32, most}}, {with(listed(slices.Repeat([]string{"a"}, api.MaxRules)...)...), []int{0, 17, -1, 16 + 1<<40}}, {with(good(2, "a"), good(most, "a")), []int{1, 3, most - 1, most + 1}},
	} {
		v := made(t, c.s)
		for _, id := range append(c.none, math.MinInt, -1, math.MaxInt) {
			for _, doc := range docs {
				checkMatch(t, v, id, doc, vm.Result{}, api.ErrNone)
			}
		}
	}
}

// P9.3: of a text of more than MaxText bytes ErrBig, of how many units ever; of one of just MaxText bytes what Find tells.
func TestErrBig(t *testing.T) {
	s := with(good(5, "a$"), good(7, ""), good(9, endless))
	v := made(t, s)
	for _, unit := range []string{"a", "\x00", "\xff", "é", "\u20ac\u20ac", "😀"} {
		doc := strings.Repeat(unit, 1+2000/len(unit))
		just := strings.Repeat("b", 2000%len(unit)) + strings.Repeat(unit, 2000/len(unit))
		for _, r := range s.Rules {
			checkMatch(t, v, r.ID, doc, vm.Result{}, api.ErrBig)
			checkMatch(t, v, r.ID, doc[:2001], vm.Result{}, api.ErrBig)
			checkMatch(t, v, r.ID, strings.Repeat(doc, 500), vm.Result{}, api.ErrBig)
			want, e := due(t, r.Pattern, just, vm.Budget{Fuel: s.Fuel, Stack: s.Stack})
			checkMatch(t, v, r.ID, just, want, e)
		}
	}
}

// P9.3: it is the rule of that ID that is looked for, whatever the rules' order, scopes and actions, and with the whole budget; at each place of a full set.
func TestMatchEachPlace(t *testing.T) {
	patterns := []string{"", "a", "b", "a*b", "(a)(b)", "a|b", `(a+)b\1`, endless, "(?i)A", "^$", "(?<=a)b", "[^a]", "(?>a*)b", "\xff", ".", "a{3}"}
	list := listed(patterns...)
	for i := range list {
		list[i].ID, list[i].Priority, list[i].Scope = 10*i+3, i*7%16, 1<<i
	}
	s := with(list...)
	for _, b := range []vm.Budget{{Fuel: 10000, Stack: 500}, {Fuel: 20, Stack: 500}, {Fuel: 10000, Stack: 1}, {Fuel: 10000}, {Fuel: 1}, {Fuel: api.MaxFuel, Stack: api.MaxStack}} {
		s.Fuel, s.Stack = b.Fuel, b.Stack
		v := made(t, s)
		for _, doc := range []string{"", "a", "b", "aab", "aabaa", "Ab", "\xff\xc3", dear, "é"} {
			for _, r := range list {
				want, e := due(t, r.Pattern, doc, b)
				checkMatch(t, v, r.ID, doc, want, e)
				checkMatch(t, v, r.ID+1, doc, vm.Result{}, api.ErrNone)
			}
		}
	}
}
