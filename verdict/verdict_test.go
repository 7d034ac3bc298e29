package verdict_test

import (
	"math"
	"slices"
	"strings"
	"testing"

	"colander/api"
	"colander/rule"
	"colander/verdict"
)

const most = api.MaxNumber

// far is a pattern of more than api.MaxProgram instructions.
const far = "(?:a{64}){64}"

// good is a right rule with this pattern.
func good(id int, pattern string) rule.Rule {
	return rule.Rule{ID: id, Priority: 10, Action: 9, Scope: 1, Pattern: pattern}
}

// with is the first set with these rules.
func with(list ...rule.Rule) rule.Set {
	s := rule.First()
	s.Rules = list
	return s
}

// listed are right rules with these patterns, the IDs 10, 20 and so on.
func listed(patterns ...string) []rule.Rule {
	var list []rule.Rule
	for place, pattern := range patterns {
		list = append(list, good(10*(place+1), pattern))
	}
	return list
}

// put is a delta that puts and drops alone.
func put(list []rule.Rule, drop ...int) rule.Delta {
	return rule.Delta{Default: -1, Closed: -1, Fuel: -1, Stack: -1, Put: list, Drop: drop}
}

// same takes nil and empty lists as one.
func same(s, o rule.Set) bool {
	return s.Default == o.Default && s.Closed == o.Closed && s.Fuel == o.Fuel && s.Stack == o.Stack && slices.Equal(s.Rules, o.Rules)
}

// checkPattern holds a pattern's verdict against what is due: alone, as a set's only rule, and as a rule that comes.
func checkPattern(t *testing.T, text string, code api.Errno, at int) {
	t.Helper()
	want := verdict.Verdict{Code: code, At: at}
	if v := verdict.Pattern(text); v != want {
		t.Fatalf("%.60q: %+v, not %+v", text, v, want)
	}
	if len(text) > api.MaxPattern {
		return
	}
	if code != api.OK {
		want.Rule = 7
	}
	checkRules(t, with(good(7, text)), want)
	checkChange(t, rule.First(), put([]rule.Rule{good(7, text)}), want)
}

// checkRules holds a set's verdict against what is due.
func checkRules(t *testing.T, s rule.Set, want verdict.Verdict) {
	t.Helper()
	if v := verdict.Rules(s); v != want {
		t.Fatalf("%+v: %+v, not %+v", s, v, want)
	}
}

// checkChange holds a change's verdict against what is due; beside OK the set must be layer 7's, beside others none.
func checkChange(t *testing.T, s rule.Set, d rule.Delta, want verdict.Verdict) {
	t.Helper()
	due := rule.Set{}
	if want.Code == api.OK {
		due, _ = rule.Apply(s, d)
	}
	if got, v := verdict.Change(s, d); v != want || !same(got, due) {
		t.Fatalf("%+v to %+v: %+v %+v, not %+v %+v", d, s, got, v, due, want)
	}
}

// The chapter's examples, and the third one of the whole.
func TestExamples(t *testing.T) {
	checkPattern(t, "a**", api.ErrRepeat, 2)
	checkRules(t, with(good(3, "("), good(7, ")")), verdict.Verdict{Code: api.ErrSyntax, Rule: 3})
	checkChange(t, rule.First(), put([]rule.Rule{good(1, "(")}), verdict.Verdict{Code: api.ErrSyntax, Rule: 1})
	checkChange(t, rule.First(), put([]rule.Rule{good(1, "a+b")}), verdict.Verdict{})
}

// P8.1: patterns that have OK.
func TestOK(t *testing.T) {
	for _, text := range []string{
		"", "a", "a+b", "|", "(?i)", "(?i)a", "(?:a|a)*b", ".", "[^a]", "\x00", "\n", "\xff\xfe", "\u00e9", "😀", `(a)\1`, `\x41\(`, "(?=a*)", "(?<=a{32})b", "(?<!a{32})b", "(?>a*+)", "^$",
		strings.Repeat("a", 256), strings.Repeat("é", 128), strings.Repeat("|", 256), strings.Repeat("(", 9) + strings.Repeat(")", 9), strings.Repeat("(?:", 32) + strings.Repeat(")", 32),
		"(?:a{31}){64}a{13}", "(?:" + far + "){0}", "(?:a{30}){0,64}",
	} {
		checkPattern(t, text, api.OK, 0)
	}
}

// P8.1: layer 3's faults, each at its byte.
func TestFaults(t *testing.T) {
	for text, due := range map[string]verdict.Verdict{
		"(": {Code: api.ErrSyntax}, ")": {Code: api.ErrSyntax}, "ab]": {Code: api.ErrSyntax, At: 2}, "a(?x)": {Code: api.ErrSyntax, At: 1}, "(a(b": {Code: api.ErrSyntax, At: 2}, "ééé)": {Code: api.ErrSyntax, At: 6},
		strings.Repeat("a", 255) + ")": {Code: api.ErrSyntax, At: 255}, "\xff)": {Code: api.ErrSyntax, At: 1},
		`\`: {Code: api.ErrEscape}, `ab\q`: {Code: api.ErrEscape, At: 2}, `[a\b]`: {Code: api.ErrEscape, At: 2}, strings.Repeat("b", 255) + `\`: {Code: api.ErrEscape, At: 255},
		"[]": {Code: api.ErrClass}, "a[b-a]": {Code: api.ErrClass, At: 2}, "[a": {Code: api.ErrClass}, `x[\d-a]`: {Code: api.ErrClass, At: 4},
		"*": {Code: api.ErrRepeat}, "a{2,1}": {Code: api.ErrRepeat, At: 1}, "a{65}": {Code: api.ErrRepeat, At: 1}, "^*": {Code: api.ErrRepeat, At: 1}, "(?=a)+": {Code: api.ErrRepeat, At: 5},
		strings.Repeat("()", 10): {Code: api.ErrGroup, At: 18}, strings.Repeat("(", 10): {Code: api.ErrGroup, At: 9},
		strings.Repeat("(?:", 33): {Code: api.ErrDeep, At: 96}, `\1`: {Code: api.ErrRef}, `(a)\1\2`: {Code: api.ErrRef, At: 5}, strings.Repeat("a", 254) + `\9`: {Code: api.ErrRef, At: 254},
	} {
		checkPattern(t, text, due.Code, due.At)
	}
}

// P8.1: a pattern that is too great is ErrBig at 0, whatever it says.
func TestBig(t *testing.T) {
	for _, text := range []string{
		strings.Repeat("a", 257), strings.Repeat("é", 129), strings.Repeat("\xff", 300), strings.Repeat("(", 257), "(?<=a*)" + far + strings.Repeat("b", 256), strings.Repeat("a", 1<<20),
	} {
		checkPattern(t, text, api.ErrBig, 0)
	}
}

// P8.1: layer 4's errors, which are told at 0, wherever in the pattern that is which makes them.
func TestShape(t *testing.T) {
	for text, code := range map[string]api.Errno{
		"(?<=a*)": api.ErrWidth, "(?<!a+)": api.ErrWidth, "(?<=a{33})": api.ErrWidth, "abc(?<=a{33})": api.ErrWidth, `(a)(?<=\1)`: api.ErrWidth, "a|b|(?:c(?=d(?<!e{2,})))": api.ErrWidth, strings.Repeat("a", 249) + "(?<=b*)": api.ErrWidth,
		far: api.ErrSize, "abc" + far: api.ErrSize, "(?i)" + far: api.ErrSize, "(?:a{31}){64}a{14}": api.ErrSize, "(?:a{31}){0,64}": api.ErrSize, strings.Repeat("a", 200) + far: api.ErrSize,
		"(?<=a*)" + far: api.ErrWidth, far + "(?<=a*)": api.ErrWidth,
	} {
		checkPattern(t, text, code, 0)
	}
}

// P8.1: layer 3's fault is told, even if what stands beside it would be too wide or too great.
func TestFaultAheadOfShape(t *testing.T) {
	for text, due := range map[string]verdict.Verdict{
		"(?<=a*))": {Code: api.ErrSyntax, At: 7}, far + "(": {Code: api.ErrSyntax, At: 13}, far + `\2`: {Code: api.ErrRef, At: 13}, `(?<=a*)\q`: {Code: api.ErrEscape, At: 7}, far + "*": {Code: api.ErrRepeat, At: 13}, "(?<=a**)": {Code: api.ErrRepeat, At: 6},
	} {
		checkPattern(t, text, due.Code, due.At)
	}
}

// P8.1: sets whose patterns all have OK, and sets without rules.
func TestRulesOK(t *testing.T) {
	full := strings.Split(strings.Repeat("a|b ", 15)+"c", " ")
	for _, s := range []rule.Set{
		rule.First(), with(), {Fuel: 1}, {Fuel: 1, Rules: []rule.Rule{}}, {Default: 255, Closed: 255, Fuel: api.MaxFuel, Stack: api.MaxStack},
		with(listed("")...), with(listed("a", "b", "a")...), with(listed("(?<=a{32})", "(?:a{31}){64}", `(a)\1`)...), with(listed(full...)...), with(good(1, "a"), good(most, "b")),
	} {
		checkRules(t, s, verdict.Verdict{})
	}
}

// P8.1: of each place in a full set, the verdict bears the ID that stands there, and the byte.
func TestEachPlace(t *testing.T) {
	for place := range api.MaxRules {
		list := listed(slices.Repeat([]string{"a"}, api.MaxRules)...)
		list[place].Pattern = "abc**"
		checkRules(t, with(list...), verdict.Verdict{Code: api.ErrRepeat, Rule: 10 * (place + 1), At: 4})
		list[place].Pattern = "ab(?<=c*)"
		checkRules(t, with(list...), verdict.Verdict{Code: api.ErrWidth, Rule: 10 * (place + 1)})
	}
	for _, id := range []int{1, 2, 255, 1 << 16, 1<<31 - 1, 1 << 32, 1<<32 + 1, most - 1, most} {
		checkRules(t, with(good(id, "a)")), verdict.Verdict{Code: api.ErrSyntax, Rule: id, At: 1})
	}
}

// P8.1: the first rule by ID, whatever the numbers, places and priorities of those behind it.
func TestFirstRule(t *testing.T) {
	for _, c := range []struct {
		patterns []string
		want     verdict.Verdict
	}{
		{[]string{"a", ")", "("}, verdict.Verdict{Code: api.ErrSyntax, Rule: 20}},
		{[]string{"abcdef)", ")"}, verdict.Verdict{Code: api.ErrSyntax, Rule: 10, At: 6}},
		{[]string{`\1`, "a)", "a**"}, verdict.Verdict{Code: api.ErrRef, Rule: 10}},
		{[]string{"a", `ab\1`, "*"}, verdict.Verdict{Code: api.ErrRef, Rule: 20, At: 2}},
		{[]string{"a", far, "(", "(?<=a*)"}, verdict.Verdict{Code: api.ErrSize, Rule: 20}},
		{[]string{"a", "b", "(?<=a*)", "a)", far}, verdict.Verdict{Code: api.ErrWidth, Rule: 30}},
		{[]string{"[", "[", "["}, verdict.Verdict{Code: api.ErrClass, Rule: 10}},
	} {
		list := listed(c.patterns...)
		checkRules(t, with(list...), c.want)
		for place := range list {
			list[place].Priority, list[place].Action, list[place].Scope = 100*place, 200-place, 1<<place
		}
		checkRules(t, with(list...), c.want)
		checkChange(t, rule.First(), put(list), c.want)
		slices.Reverse(list)
		checkChange(t, rule.First(), put(list), c.want)
	}
}

// wrongSets aren't right, each in another way.
func wrongSets(pattern string) []rule.Set {
	one := good(5, pattern)
	full := listed(slices.Repeat([]string{pattern}, api.MaxRules)...)
	list := []rule.Set{
		{}, {Rules: []rule.Rule{one}}, with(append(full, good(999, pattern))...), with(one, one), with(good(6, "a"), one), with(one, good(7, "a"), good(6, "b")),
		{Default: -1, Fuel: 1}, {Default: 256, Fuel: 1}, {Closed: -1, Fuel: 1}, {Closed: 256, Fuel: 1}, {Fuel: api.MaxFuel + 1}, {Fuel: -1}, {Fuel: 1, Stack: -1}, {Fuel: 1, Stack: api.MaxStack + 1},
		{Default: math.MinInt, Closed: math.MaxInt, Fuel: math.MinInt, Stack: math.MaxInt, Rules: []rule.Rule{one}},
	}
	for _, r := range wrongRules(pattern) {
		list = append(list, with(r), with(good(1, pattern), r), with(good(1, pattern), r, good(most, pattern)))
	}
	return list
}

// wrongRules aren't right, each in another way.
func wrongRules(pattern string) []rule.Rule {
	var list []rule.Rule
	for _, spoil := range []func(r *rule.Rule){
		func(r *rule.Rule) { r.ID = 0 }, func(r *rule.Rule) { r.ID = -3 }, func(r *rule.Rule) { r.ID = most + 1 }, func(r *rule.Rule) { r.Priority = -1 }, func(r *rule.Rule) { r.Priority = 1001 },
		func(r *rule.Rule) { r.Action = -1 }, func(r *rule.Rule) { r.Action = 256 }, func(r *rule.Rule) { r.Scope = 0 }, func(r *rule.Rule) { r.Scope = 65536 }, func(r *rule.Rule) { r.Pattern = strings.Repeat("a", 257) },
	} {
		r := good(5, pattern)
		spoil(&r)
		list = append(list, r)
	}
	return list
}

// P8.1: a set that isn't right is ErrForm, with the Rule and At 0, ahead of what its patterns have, one that is too great, too.
func TestErrForm(t *testing.T) {
	for _, pattern := range []string{"a", "ab(", "a**", far, "(?<=a*)"} {
		for _, s := range wrongSets(pattern) {
			checkRules(t, s, verdict.Verdict{Code: api.ErrForm})
			checkChange(t, s, put(nil), verdict.Verdict{Code: api.ErrForm})
			checkChange(t, s, rule.Delta{Default: 0, Closed: 0, Fuel: 1, Stack: 0, Drop: []int{5}}, verdict.Verdict{Code: api.ErrForm})
		}
	}
}

// P8.2: layer 7's errors, with the Rule and At 0 and no set; also where a pattern hasn't OK.
func TestApplyErrors(t *testing.T) {
	for _, pattern := range []string{"a", "ab(", "(?<=a*)"} {
		s := with(listed("a", "b", "c")...)
		bad := good(5, pattern)
		var full []rule.Rule
		for i := range api.MaxRules - 2 {
			full = append(full, good(100+i, pattern))
		}
		for _, c := range []struct {
			d    rule.Delta
			want api.Errno
		}{
			{rule.Delta{}, api.ErrRule}, {rule.Delta{Default: 256, Closed: -1, Fuel: -1, Stack: -1, Put: []rule.Rule{bad}}, api.ErrRule}, {rule.Delta{Default: -1, Closed: -2, Fuel: -1, Stack: -1, Drop: []int{7}}, api.ErrRule},
			{rule.Delta{Default: -1, Closed: -1, Fuel: 0, Stack: -1, Put: full}, api.ErrRule}, {rule.Delta{Default: -1, Closed: -1, Fuel: -1, Stack: api.MaxStack + 1, Put: []rule.Rule{bad, bad}}, api.ErrRule},
			{put([]rule.Rule{bad, bad}), api.ErrTwice}, {put([]rule.Rule{bad}, 5), api.ErrTwice}, {put([]rule.Rule{bad}, 20, 20), api.ErrTwice},
			{put([]rule.Rule{bad}, 7), api.ErrNone}, {put(nil, 20, 7), api.ErrNone}, {put(full, 7), api.ErrNone},
			{put(full), api.ErrFull}, {put(append(full, good(99, "a")), 10), api.ErrFull},
		} {
			checkChange(t, s, c.d, verdict.Verdict{Code: c.want})
		}
		for _, r := range wrongRules(pattern) {
			checkChange(t, s, put([]rule.Rule{r}), verdict.Verdict{Code: api.ErrRule})
			checkChange(t, s, put([]rule.Rule{bad, r}, 7), verdict.Verdict{Code: api.ErrRule})
		}
	}
}

// P8.2: with OK the changed set stands beside the verdict.
func TestChange(t *testing.T) {
	s := rule.Set{Default: 1, Closed: 2, Fuel: 3, Stack: 4, Rules: []rule.Rule{good(4, "a"), good(9, "b")}}
	for _, c := range []struct {
		d    rule.Delta
		want rule.Set
	}{
		{put(nil), s},
		{rule.Delta{Default: 5, Closed: 6, Fuel: 7, Stack: 8}, rule.Set{Default: 5, Closed: 6, Fuel: 7, Stack: 8, Rules: s.Rules}},
		{rule.Delta{Default: -1, Closed: 6, Fuel: -1, Stack: 0, Put: []rule.Rule{good(7, "c+")}}, rule.Set{Default: 1, Closed: 6, Fuel: 3, Rules: []rule.Rule{good(4, "a"), good(7, "c+"), good(9, "b")}}},
		{put([]rule.Rule{good(9, "c"), good(1, "")}, 4), rule.Set{Default: 1, Closed: 2, Fuel: 3, Stack: 4, Rules: []rule.Rule{good(1, ""), good(9, "c")}}},
		{put(nil, 9, 4), rule.Set{Default: 1, Closed: 2, Fuel: 3, Stack: 4}},
	} {
		if got, v := verdict.Change(s, c.d); v != (verdict.Verdict{}) || !same(got, c.want) {
			t.Errorf("%+v: %+v %+v, not %+v", c.d, got, v, c.want)
		}
	}
}

// P8.2: it is the changed set whose verdict is told: what stays counts too, what goes or is written anew doesn't.
func TestChangedSet(t *testing.T) {
	bad := with(good(4, "a"), good(6, "ab)"), good(9, "abc**"))
	for _, c := range []struct {
		d    rule.Delta
		want verdict.Verdict
	}{
		{put(nil), verdict.Verdict{Code: api.ErrSyntax, Rule: 6, At: 2}},
		{put([]rule.Rule{good(5, "c")}), verdict.Verdict{Code: api.ErrSyntax, Rule: 6, At: 2}},
		{put([]rule.Rule{good(5, far)}), verdict.Verdict{Code: api.ErrSize, Rule: 5}},
		{put([]rule.Rule{good(7, far)}), verdict.Verdict{Code: api.ErrSyntax, Rule: 6, At: 2}},
		{put(nil, 9), verdict.Verdict{Code: api.ErrSyntax, Rule: 6, At: 2}},
		{put(nil, 6), verdict.Verdict{Code: api.ErrRepeat, Rule: 9, At: 4}},
		{put([]rule.Rule{good(6, "ab")}), verdict.Verdict{Code: api.ErrRepeat, Rule: 9, At: 4}},
		{put([]rule.Rule{good(6, "[")}, 9), verdict.Verdict{Code: api.ErrClass, Rule: 6}},
		{put([]rule.Rule{good(4, "(")}, 6, 9), verdict.Verdict{Code: api.ErrSyntax, Rule: 4}},
		{put([]rule.Rule{good(most, `ab\1`)}, 6, 9), verdict.Verdict{Code: api.ErrRef, Rule: most, At: 2}},
		{rule.Delta{Default: 9, Closed: 9, Fuel: 9, Stack: 9}, verdict.Verdict{Code: api.ErrSyntax, Rule: 6, At: 2}},
		{put(nil, 6, 9), verdict.Verdict{}},
		{put([]rule.Rule{good(6, "ab")}, 9), verdict.Verdict{}},
		{put([]rule.Rule{good(6, "ab"), good(9, "c")}), verdict.Verdict{}},
	} {
		checkChange(t, bad, c.d, c.want)
	}
}
