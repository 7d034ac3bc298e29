package sieve_test

import (
	"math"
	"slices"
	"strings"
	"testing"

	"colander/api"
	"colander/rule"
	"colander/sieve"
	"colander/verdict"
	"colander/vm"
)

const most = api.MaxNumber

// far is a pattern of more than api.MaxProgram instructions.
const far = "(?:a{64}){64}"

// endless is looked for in twenty times a at the cost of any budget.
const endless = "(?:a|a)*b"

// dear is a text that costs a pattern like endless any budget.
var dear = strings.Repeat("a", 20)

// tooLarge is the answer of a text that is.
var tooLarge = sieve.Answer{Kind: 1}

// says is an answer of a rule that was found, or of the Default.
func says(action, id int) sieve.Answer { return sieve.Answer{Action: action, Rule: id} }

// closes is an answer of a rule whose budget was over.
func closes(action, id int) sieve.Answer {
	return sieve.Answer{Action: action, Rule: id, Budget: true}
}

// good is a right rule with this pattern; its action tells its ID.
func good(id int, pattern string) rule.Rule {
	return rule.Rule{ID: id, Priority: 10, Action: 100 + id%100, Scope: 1, Pattern: pattern}
}

// with is a set with these rules, and numbers that are told apart: Default 2, Closed 3.
func with(list ...rule.Rule) rule.Set {
	return rule.Set{Default: 2, Closed: 3, Fuel: 10000, Stack: 500, Rules: list}
}

// listed are right rules with these patterns, the IDs 1, 2 and so on.
func listed(patterns ...string) []rule.Rule {
	var list []rule.Rule
	for place, pattern := range patterns {
		list = append(list, good(place+1, pattern))
	}
	return list
}

// same takes nil and empty lists as one.
func same(s, o rule.Set) bool {
	return s.Default == o.Default && s.Closed == o.Closed && s.Fuel == o.Fuel && s.Stack == o.Stack && slices.Equal(s.Rules, o.Rules)
}

// sameResult takes nil and empty lists as one.
func sameResult(r, o vm.Result) bool {
	return r.Kind == o.Kind && r.Steps == o.Steps && r.Deep == o.Deep && slices.Equal(r.Caps, o.Caps)
}

// made is the sieve of a set that may be used.
func made(t *testing.T, s rule.Set) *sieve.Sieve {
	t.Helper()
	v, told := sieve.Make(s)
	if v == nil || told != (verdict.Verdict{}) {
		t.Fatalf("%.200v: no sieve, or %+v", s, told)
	}
	return v
}

// checkSays holds an answer against what is due.
func checkSays(t *testing.T, v *sieve.Sieve, doc string, scope int, want sieve.Answer) {
	t.Helper()
	if got := v.Classify([]byte(doc), scope); got != want {
		t.Fatalf("%.60q, scope %d: %+v, not %+v", doc, scope, got, want)
	}
}

// The chapter's example, and those of the whole that speak of texts.
func TestExamples(t *testing.T) {
	s := rule.First()
	s.Default = 2
	s.Rules = []rule.Rule{{ID: 5, Priority: 1, Action: 9, Scope: 1, Pattern: "b+"}}
	v := made(t, s)
	checkSays(t, v, "abb", 1, says(9, 5))
	checkSays(t, v, "aa", 1, says(2, 0))
	s.Rules[0].Pattern = "a+b"
	checkSays(t, made(t, s), "xaab", 1, says(9, 5))
	s.Rules[0].Pattern = endless
	checkSays(t, made(t, s), dear, 1, closes(255, 5))
}

// P9.1: of a set that may not be used there is layer 8's verdict, and no sieve.
func TestMakeVerdict(t *testing.T) {
	full := listed(slices.Repeat([]string{"a"}, api.MaxRules)...)
	for _, c := range []struct {
		s    rule.Set
		want verdict.Verdict
	}{
		{rule.Set{}, verdict.Verdict{Code: api.ErrForm}}, {rule.Set{Fuel: api.MaxFuel + 1}, verdict.Verdict{Code: api.ErrForm}}, {rule.Set{Fuel: 1, Stack: -1}, verdict.Verdict{Code: api.ErrForm}}, {rule.Set{Fuel: 1, Default: 256}, verdict.Verdict{Code: api.ErrForm}},
		{rule.Set{Default: math.MinInt, Closed: math.MaxInt, Fuel: math.MinInt, Stack: math.MaxInt, Rules: listed("(")}, verdict.Verdict{Code: api.ErrForm}},
		{with(append(slices.Clone(full), good(99, "a"))...), verdict.Verdict{Code: api.ErrForm}}, {with(good(5, "a"), good(5, "b")), verdict.Verdict{Code: api.ErrForm}}, {with(good(6, "("), good(5, "b")), verdict.Verdict{Code: api.ErrForm}},
		{with(good(0, "a")), verdict.Verdict{Code: api.ErrForm}}, {with(good(most+1, "a")), verdict.Verdict{Code: api.ErrForm}}, {with(good(1, strings.Repeat("a", 257))), verdict.Verdict{Code: api.ErrForm}}, {with(rule.Rule{ID: 1, Pattern: "a"}), verdict.Verdict{Code: api.ErrForm}},
		{with(good(7, "a**")), verdict.Verdict{Code: api.ErrRepeat, Rule: 7, At: 2}}, {with(good(3, "("), good(7, ")")), verdict.Verdict{Code: api.ErrSyntax, Rule: 3}}, {with(good(3, "a"), good(7, "b)")), verdict.Verdict{Code: api.ErrSyntax, Rule: 7, At: 1}},
		{with(good(3, "a"), good(7, "(?<=a*)")), verdict.Verdict{Code: api.ErrWidth, Rule: 7}}, {with(good(3, far)), verdict.Verdict{Code: api.ErrSize, Rule: 3}}, {with(append(slices.Clone(full[:15]), good(most, `ab\1`))...), verdict.Verdict{Code: api.ErrRef, Rule: most, At: 2}},
	} {
		v, told := sieve.Make(c.s)
		if v != nil || told != c.want || told != verdict.Rules(c.s) {
			t.Errorf("%.200v: %t %+v, not %+v", c.s, v != nil, told, c.want)
		}
	}
}

// P9.1: of a set that may be used there is a sieve and OK, and Set tells that set.
func TestMakeOK(t *testing.T) {
	full := listed(slices.Repeat([]string{"a|b"}, api.MaxRules)...)
	edge := rule.Rule{ID: most, Priority: 1000, Action: 255, Scope: 65535, Pattern: strings.Repeat("a", api.MaxPattern)}
	for _, s := range []rule.Set{
		rule.First(), with(), {Fuel: 1}, {Fuel: 1, Rules: []rule.Rule{}}, {Default: 255, Closed: 255, Fuel: api.MaxFuel, Stack: api.MaxStack}, with(full...), with(edge), with(rule.Rule{ID: 1, Scope: 1}, edge),
		with(listed("", "(?i)a", `(a)\1`, "(?<=a{32})b", "(?:a{31}){64}a{13}", "a", "a", "\xff")...),
	} {
		if v := made(t, s); !same(v.Set(), s) || !same(v.Set(), s) {
			t.Errorf("%+v, not %+v", v.Set(), s)
		}
	}
}

// P9.2: a text of more than MaxText bytes is too large, of how many units ever, and whatever the set and the scope are; one of just MaxText bytes isn't.
func TestTooLarge(t *testing.T) {
	closed := with(good(5, endless))
	closed.Fuel = 1
	for _, unit := range []string{"a", "b", "\x00", "\xff", "é", "\u20ac\u20ac", "😀", "\xc3"} {
		doc := strings.Repeat(unit, 1+2000/len(unit))
		just := strings.Repeat("b", 2000%len(unit)) + strings.Repeat(unit, 2000/len(unit))
		for _, s := range []rule.Set{with(), with(good(5, "")), with(good(5, "x")), closed} {
			v := made(t, s)
			for _, scope := range []int{0, 1, 2, -1} {
				checkSays(t, v, doc, scope, tooLarge)
				checkSays(t, v, doc[:2001], scope, tooLarge)
				if got := v.Classify([]byte(just), scope); got.Kind != 0 {
					t.Fatalf("%q, %d times: %+v", unit, 2000/len(unit), got)
				}
			}
			checkSays(t, v, strings.Repeat(doc, 1000), 1, tooLarge)
		}
	}
	v := made(t, with(good(5, "a$")))
	checkSays(t, v, strings.Repeat("b", 1999)+"a", 1, says(105, 5))
	checkSays(t, v, strings.Repeat("b", 2000)+"a", 1, tooLarge)
	checkSays(t, v, strings.Repeat("b", 2000), 1, says(2, 0))
}

// P9.2: a text without bytes is one as others are.
func TestNoBytes(t *testing.T) {
	checkSays(t, made(t, with()), "", 1, says(2, 0))
	checkSays(t, made(t, with(good(5, "a"))), "", 1, says(2, 0))
	v := made(t, with(good(5, "^$")))
	checkSays(t, v, "", 1, says(105, 5))
	checkSays(t, v, "a", 1, says(2, 0))
	if got := v.Classify(nil, 1); got != says(105, 5) {
		t.Errorf("nil: %+v", got)
	}
}

// scoped is a right rule that is found in each text.
func scoped(id, priority, scope int) rule.Rule {
	return rule.Rule{ID: id, Priority: priority, Action: 100 + id, Scope: scope}
}

// P9.2: only the rules that have a bit of the scope are looked for; for a scope that no rule has it is the Default.
func TestScope(t *testing.T) {
	v := made(t, with(scoped(1, 9, 1), scoped(2, 8, 2), scoped(3, 7, 12), scoped(4, 6, 32768), scoped(5, 5, 0x4007)))
	for scope, want := range map[int]sieve.Answer{
		1: says(101, 1), 2: says(102, 2), 3: says(101, 1), 4: says(103, 3), 5: says(101, 1), 6: says(102, 2), 8: says(103, 3), 12: says(103, 3), 16: says(2, 0), 24: says(103, 3), 0x4000: says(105, 5), 0x8000: says(104, 4), 0xc000: says(104, 4), 0xffff: says(101, 1), 0xbff0: says(104, 4),
		0: says(2, 0), 0x10000: says(2, 0), 0x10002: says(102, 2), 1 << 40: says(2, 0), math.MaxInt: says(101, 1), math.MinInt: says(2, 0), math.MinInt + 2: says(102, 2), -1: says(101, 1), -2: says(102, 2), -4: says(103, 3), -16: says(104, 4), -0x8000: says(104, 4), -0x10000: says(2, 0),
	} {
		checkSays(t, v, "a", scope, want)
	}
	for bit := range 64 {
		v := made(t, with(scoped(7, 0, 1<<min(bit, 15))))
		for other := range 64 {
			want := says(2, 0)
			if other == min(bit, 15) {
				want = says(107, 7)
			}
			checkSays(t, v, "a", 1<<other, want)
		}
	}
}

// P9.2: what the scope hasn't isn't looked for: it ends nothing, at whatever cost it would be.
func TestOutOfScope(t *testing.T) {
	first, second := good(1, endless), good(2, "a")
	first.Priority, first.Scope = 1000, 2
	v := made(t, with(first, second))
	checkSays(t, v, dear, 1, says(102, 2))
	checkSays(t, v, dear, 2, closes(3, 1))
	checkSays(t, v, dear, 3, closes(3, 1))
	checkSays(t, v, dear, 4, says(2, 0))
}

// P9.2: the rules are looked for by falling priority, those of one priority by rising ID: with all orders of four priorities.
func TestOrder(t *testing.T) {
	for n := range 256 {
		list := []rule.Rule{scoped(3, n&3, 1), scoped(20, n>>2&3, 1), scoped(44, n>>4&3, 1), scoped(50, n>>6, 1)}
		best := list[0]
		for _, r := range list {
			if r.Priority > best.Priority {
				best = r
			}
		}
		checkSays(t, made(t, with(list...)), "a", 1, says(best.Action, best.ID))
	}
	for _, edges := range [][2]int{{0, 1}, {1, 2}, {9, 10}, {99, 100}, {255, 256}, {511, 512}, {999, 1000}, {0, 1000}} {
		checkSays(t, made(t, with(scoped(3, edges[0], 1), scoped(4, edges[1], 1))), "", 1, says(104, 4))
		checkSays(t, made(t, with(scoped(3, edges[1], 1), scoped(4, edges[0], 1))), "", 1, says(103, 3))
		checkSays(t, made(t, with(scoped(3, edges[1], 1), scoped(4, edges[1], 1))), "", 1, says(103, 3))
	}
}

// P9.2: the first rule that is found tells its own action and ID, at each place of a full set, and with each action.
func TestFirstFound(t *testing.T) {
	for place := range api.MaxRules {
		list := listed(slices.Repeat([]string{"b"}, api.MaxRules)...)
		for i := range list {
			list[i].Action = 10 * i
			// The list backwards is the order, so that a place in the one isn't mistaken for the other.
			list[i].Priority = i
			if i <= place {
				list[i].Pattern = "a+"
			}
		}
		v := made(t, with(list...))
		checkSays(t, v, "caac", 1, says(10*place, place+1))
		checkSays(t, v, "cc", 1, says(2, 0))
		checkSays(t, v, "ab", 1, says(150, 16))
	}
	for action := range 256 {
		r := good(most, "a")
		r.Action = action
		s := with(good(1, "b"), r)
		checkSays(t, made(t, s), "xa", 1, says(action, most))
		s.Default = action
		checkSays(t, made(t, s), "x", 1, says(action, 0))
		s.Closed, s.Fuel = action, 1
		checkSays(t, made(t, s), "x", 1, closes(action, 1))
	}
}

// cost is a set with this budget whose third rule, looked for in "b", is the dearest one: the others cost 4 steps each, and no choices.
func cost(fuel, stack int) rule.Set {
	s := with(listed("a", "a", "x|y|z", "b")...)
	s.Fuel, s.Stack = fuel, stack
	return s
}

// P9.2: a budget that is over ends the looking: Closed, the rule's ID, and Budget, whatever would be found behind it.
func TestBudget(t *testing.T) {
	v := made(t, with(good(1, "x"), good(4, endless), good(6, "a"), good(9, "b")))
	checkSays(t, v, dear, 1, closes(3, 4))
	checkSays(t, v, dear+"x", 1, says(101, 1))
	checkSays(t, v, "aab", 1, says(104, 4))
	checkSays(t, v, "aa", 1, says(106, 6))
	for place := range api.MaxRules {
		list := listed(slices.Repeat([]string{"c"}, api.MaxRules)...)
		list[place].Pattern = endless
		for i := place + 1; i < len(list); i++ {
			list[i].Pattern = "a"
		}
		s := with(list...)
		checkSays(t, made(t, s), dear, 1, closes(3, place+1))
		// A rule whose budget is over ahead of one that is found by priority, not by ID.
		for i := range list {
			list[i].Priority = 100 - i
		}
		slices.Reverse(list)
		for i := range list {
			list[i].ID = i + 1
		}
		checkSays(t, made(t, s), dear, 1, closes(3, 16-place))
	}
}

// P9.2: each rule has the whole budget anew, steps and choices: what is enough for the dearest one is enough for all.
func TestBudgetAnew(t *testing.T) {
	const third = "x|y|z"
	r, e := made(t, with(good(3, third))).Match(3, []byte("b"))
	if e != api.OK || r.Kind != 0 || r.Steps < 5 || r.Deep < 1 {
		t.Fatalf("%+v %d", r, e)
	}
	checkSays(t, made(t, cost(r.Steps, r.Deep)), "b", 1, says(104, 4))
	checkSays(t, made(t, cost(r.Steps-1, r.Deep)), "b", 1, closes(3, 3))
	checkSays(t, made(t, cost(r.Steps, r.Deep-1)), "b", 1, closes(3, 3))
	checkSays(t, made(t, cost(api.MaxFuel, 0)), "b", 1, closes(3, 3))
	checkSays(t, made(t, cost(4, api.MaxStack)), "b", 1, closes(3, 3))
	checkSays(t, made(t, cost(3, api.MaxStack)), "b", 1, closes(3, 1))
	checkSays(t, made(t, cost(1, 0)), "b", 1, closes(3, 1))
	s := with(listed(slices.Repeat([]string{"a"}, api.MaxRules)...)...)
	s.Fuel, s.Stack = 4, 0
	checkSays(t, made(t, s), "b", 1, says(2, 0))
	checkSays(t, made(t, s), "a", 1, says(101, 1))
	checkSays(t, made(t, s), "bb", 1, closes(3, 1))
	s = with(listed(slices.Repeat([]string{third}, api.MaxRules)...)...)
	s.Fuel, s.Stack = r.Steps, r.Deep
	checkSays(t, made(t, s), "b", 1, says(2, 0))
}

// P9.2: the greatest budget, too, is each rule's.
func TestGreatestBudget(t *testing.T) {
	s := with(good(1, "(?:a|a)*b"), good(2, "a"))
	s.Fuel, s.Stack = api.MaxFuel, api.MaxStack
	v := made(t, s)
	checkSays(t, v, strings.Repeat("a", 30), 1, closes(3, 1))
	checkSays(t, v, strings.Repeat("a", 10), 1, says(102, 2))
	s.Rules[0].Pattern = "(?:a|b)*c"
	v = made(t, s)
	checkSays(t, v, strings.Repeat("a", 200), 1, says(102, 2))
	s.Stack = 200
	checkSays(t, made(t, s), strings.Repeat("a", 200), 1, closes(3, 1))
}

// P9.2: bytes that are no characters are units of their own, in texts as in patterns.
func TestStrays(t *testing.T) {
	for pattern, texts := range map[string][2][]string{
		"^.$":    {{"\xff", "\xc3", "\x80", "é", "a", "\u20ac", "😀"}, {"\xff\xff", "\xc3\xc3", "\xe2\x82", "éa", "\n", ""}},
		"^..$":   {{"\xff\xff", "\xc0\x80", "\xe2\x82", "é\xa9", "\xc3a", "éé"}, {"é", "\xff", "\xe2\x82\xac", "\xed\xa0\x80"}},
		"^...$":  {{"\xed\xa0\x80", "\xe2\x82a", "\xf0\x9f\x98"}, {"\u20ac", "😀"}},
		"^....$": {{"\xf4\x90\x80\x80", "\xf5\x80\x80\x80"}, {"😀", "\xf4\x8f\xbf\xbf"}},
		"[^a]":   {{"\xff", "a\xc3", "é"}, {"a", "aa", ""}},
		"\xff":   {{"\xff", "a\xffb"}, {"\xfe", "a", "\u00ff", "\xc3\xbf"}},
		`\xff`:   {{"\u00ff", "a\u00ff"}, {"\xff", "a"}},
		"\xc3":   {{"\xc3", "\xc3\xc3\xa9"}, {"é", "éé"}},
		"\xa9":   {{"\xa9", "é\xa9"}, {"é", "\u00a9"}},
		"é":      {{"é", "\xc3é"}, {"\xc3", "\xa9", "\xa9\xc3"}},
		`^\W$`:   {{"\xff", "é"}, {"a", "\xff\xff"}},
		`\b`:     {{"\xffa"}, {"\xff", "é"}},
		"(.)\\1": {{"\xff\xff", "éé"}, {"\xff\xfe", "\xc3é"}},
	} {
		v := made(t, with(good(5, pattern)))
		for _, text := range texts[0] {
			checkSays(t, v, text, 1, says(105, 5))
		}
		for _, text := range texts[1] {
			checkSays(t, v, text, 1, says(2, 0))
		}
	}
	// What is found is told in units, not in bytes.
	r, e := made(t, with(good(5, "(b)\xff"))).Match(5, []byte("é\u20ac\xe2\x82b\xff"))
	if e != api.OK || r.Kind != 1 || !slices.Equal(r.Caps[:4], []int{4, 6, 4, 5}) {
		t.Errorf("%+v %d", r, e)
	}
}

// P9.2: Classify asked again answers the same, whatever was asked in between.
func TestAgain(t *testing.T) {
	list := []rule.Rule{good(1, "(a+)b\\1"), good(2, endless), good(3, "c")}
	list[2].Scope = 2
	v := made(t, with(list...))
	docs := []string{"", "aabaa", dear, "c", dear + "c", "\xff", strings.Repeat("a", 2001), strings.Repeat("c", 2000), "aaaaac"}
	scopes := []int{0, 1, 2, 3, -1}
	var was []sieve.Answer
	for round := range 3 {
		for i, doc := range docs {
			for j, scope := range scopes {
				got := v.Classify([]byte(doc), scope)
				if again := v.Classify([]byte(doc), scope); again != got {
					t.Fatalf("%.60q, scope %d: %+v, then %+v", doc, scope, got, again)
				}
				if round == 0 {
					was = append(was, got)
				} else if got != was[i*len(scopes)+j] {
					t.Fatalf("%.60q, scope %d: %+v, then %+v", doc, scope, was[i*len(scopes)+j], got)
				}
				v.Match(round+1, []byte(doc))
				v.Set()
			}
		}
	}
}

// P9.1 and P9.2: two sieves have nothing in common.
func TestTwoSieves(t *testing.T) {
	one, two := made(t, with(good(1, "a"))), made(t, rule.Set{Default: 7, Closed: 8, Fuel: 4, Rules: []rule.Rule{good(1, "b"), good(5, "a")}})
	for range 2 {
		checkSays(t, one, "a", 1, says(101, 1))
		checkSays(t, two, "a", 1, says(105, 5))
		checkSays(t, one, "b", 1, says(2, 0))
		checkSays(t, two, "c", 1, says(7, 0))
		checkSays(t, two, "cc", 1, closes(8, 1))
	}
}
