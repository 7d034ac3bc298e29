package vm_test

import (
	"fmt"
	"math"
	"reflect"
	"slices"
	"strings"
	"testing"

	"colander/api"
	"colander/parse"
	"colander/prog"
	"colander/unit"
	"colander/vm"
)

// whole is the greatest budget.
var whole = vm.Budget{Fuel: api.MaxFuel, Stack: api.MaxStack}

// compiled is the program of a pattern that must have one.
func compiled(t *testing.T, text string) []prog.Inst {
	t.Helper()
	p, f := parse.Parse(text)
	if f != (parse.Fault{}) {
		t.Fatalf("%q: %+v", text, f)
	}
	code, e := prog.Compile(p)
	if e != api.OK {
		t.Fatalf("%q: %d", text, e)
	}
	return code
}

// units is a text's units.
func units(text string) []int { return unit.Split([]byte(text)) }

// show is an answer's text: its Kind, the Caps of a match without what is unset at their end, its Steps and its Deep.
func show(r vm.Result, e api.Errno) string {
	if e != api.OK {
		if r.Kind != 0 || r.Steps != 0 || r.Deep != 0 || len(r.Caps) != 0 {
			return fmt.Sprint("error ", e, " and ", r)
		}
		return fmt.Sprint("error ", e)
	}
	if r.Kind != 1 {
		if len(r.Caps) != 0 {
			return fmt.Sprint("Caps beside the Kind ", r.Kind, ": ", r.Caps)
		}
		return fmt.Sprint(r.Kind, " ", r.Steps, " ", r.Deep)
	}
	if len(r.Caps) != 20 {
		return fmt.Sprint("not 20 Caps: ", r.Caps)
	}
	caps := r.Caps
	for len(caps) > 0 && caps[len(caps)-1] == -1 {
		caps = caps[:len(caps)-1]
	}
	return fmt.Sprint(r.Kind, " ", caps, " ", r.Steps, " ", r.Deep)
}

// call is a call of Run at a position, or of Find.
type call func(p []prog.Inst, units []int, b vm.Budget) (vm.Result, api.Errno)

// at is Run at a position.
func at(from int) call {
	return func(p []prog.Inst, units []int, b vm.Budget) (vm.Result, api.Errno) {
		return vm.Run(p, units, from, b)
	}
}

// checkJust asks that just what an answer did cost is enough, and one less of either isn't (P6.3).
func checkJust(t *testing.T, name string, c call, p []prog.Inst, u []int) {
	t.Helper()
	r, e := c(p, u, whole)
	if e != api.OK || r.Kind == 2 {
		return
	}
	want := show(r, e)
	for _, b := range []vm.Budget{{r.Steps, r.Deep}, {r.Steps, api.MaxStack}, {api.MaxFuel, r.Deep}, {r.Steps + 1, r.Deep + 1}, {2 * r.Steps, 2 * r.Deep}} {
		if got := show(c(p, u, b)); got != want {
			t.Errorf("%s, with %+v: %s, not %s", name, b, got, want)
		}
	}
	// An answer that ended earlier may have had fewer choices.
	less, e := c(p, u, vm.Budget{Fuel: r.Steps - 1, Stack: r.Deep})
	if e != api.OK || less.Kind != 2 || less.Steps != r.Steps-1 || less.Deep > r.Deep || len(less.Caps) != 0 {
		t.Errorf("%s, with less Fuel than %s: %+v, %d", name, want, less, e)
	}
	if r.Deep == 0 {
		return
	}
	less, e = c(p, u, vm.Budget{Fuel: r.Steps, Stack: r.Deep - 1})
	if e != api.OK || less.Kind != 2 || less.Deep != r.Deep-1 || less.Steps > r.Steps || len(less.Caps) != 0 {
		t.Errorf("%s, with less Stack than %s: %+v, %d", name, want, less, e)
	}
}

// checkRun asks for Run's answer at a position, with any budget that is enough; the slow machine must say the same.
func checkRun(t *testing.T, pattern, text string, from int, want string) {
	t.Helper()
	p, u := compiled(t, pattern), units(text)
	name := fmt.Sprintf("%q over %q at %d", pattern, text, from)
	if got := show(vm.Run(p, u, from, whole)); got != want {
		t.Errorf("%s: %s, not %s", name, got, want)
	}
	if sure := show(slowRun(p, u, from, whole), api.OK); sure != want {
		t.Errorf("%s: the slow machine says %s, not %s", name, sure, want)
	}
	checkJust(t, name, at(from), p, u)
}

// checkFind asks for Find's answer, with any budget that is enough; the slow machine must say the same.
func checkFind(t *testing.T, pattern, text, want string) {
	t.Helper()
	p, u := compiled(t, pattern), units(text)
	name := fmt.Sprintf("%q, looked for in %q", pattern, text)
	if got := show(vm.Find(p, u, whole)); got != want {
		t.Errorf("%s: %s, not %s", name, got, want)
	}
	if sure := show(slowFind(p, u, whole), api.OK); sure != want {
		t.Errorf("%s: the slow machine says %s, not %s", name, sure, want)
	}
	checkJust(t, name, vm.Find, p, u)
}

// over is a text, and a position.
type over struct {
	text string
	from int
}

// checkRuns asks for the answers of one pattern.
func checkRuns(t *testing.T, pattern string, cases map[over]string) {
	t.Helper()
	for o, want := range cases {
		checkRun(t, pattern, o.text, o.from, want)
	}
}

// P6.1: the chapter's examples.
func TestExamples(t *testing.T) {
	checkRun(t, "a*b", "aab", 0, "1 [0 3] 17 3")
	checkRun(t, "(a|ab)(c|bcd)", "abcd", 0, "1 [0 4 0 1 1 4] 15 2")
}

// P6.1: Save and Match alone.
func TestEmpty(t *testing.T) {
	checkRuns(t, "", map[over]string{
		{"", 0}: "1 [0 0] 3 0", {"a", 0}: "1 [0 0] 3 0", {"a", 1}: "1 [1 1] 3 0", {"abc", 2}: "1 [2 2] 3 0",
	})
}

// P6.1: Set takes one unit that it has; it fails at the end, and at others.
func TestSet(t *testing.T) {
	checkRuns(t, "a", map[over]string{
		{"a", 0}: "1 [0 1] 4 0", {"b", 0}: "0 2 0", {"", 0}: "0 2 0", {"a", 1}: "0 2 0", {"ba", 1}: "1 [1 2] 4 0", {"ba", 0}: "0 2 0", {"A", 0}: "0 2 0",
	})
	checkRuns(t, "abc", map[over]string{
		{"abc", 0}: "1 [0 3] 6 0", {"xabc", 1}: "1 [1 4] 6 0", {"abd", 0}: "0 4 0", {"ab", 0}: "0 4 0", {"acc", 0}: "0 3 0",
	})
	checkRuns(t, "(?i)k", map[over]string{{"k", 0}: "1 [0 1] 4 0", {"K", 0}: "1 [0 1] 4 0", {"\u212a", 0}: "0 2 0"})
	checkRuns(t, `[^\d\D]`, map[over]string{{"a", 0}: "0 2 0", {"", 0}: "0 2 0"})
	checkRuns(t, ".", map[over]string{{"\xff", 0}: "1 [0 1] 4 0", {"\u00e9", 0}: "1 [0 1] 4 0", {"\n", 0}: "0 2 0", {"\n\U0010ffff", 1}: "1 [1 2] 4 0"})
	checkRun(t, "[^a]", "\xff", 0, "1 [0 1] 4 0")
}

// P6.1: any numbers may stand in the units; what is no unit is in no set.
func TestAnyUnits(t *testing.T) {
	for u, want := range map[int]string{
		0: "1 [0 1] 4 0", 0xd800: "1 [0 1] 4 0", 0x110000: "1 [0 1] 4 0", api.MaxUnit: "1 [0 1] 4 0",
		-1: "0 2 0", 'a': "0 2 0", api.MaxUnit + 1: "0 2 0", 1<<32 + 'b': "0 2 0", math.MaxInt: "0 2 0", math.MinInt: "0 2 0",
	} {
		if got := show(vm.Run(compiled(t, "[^a]"), []int{u}, 0, whole)); got != want {
			t.Errorf("%d: %s, not %s", u, got, want)
		}
		// What is no unit is of no word, and no edge is beside it.
		if got := show(vm.Run(compiled(t, `\B`), []int{u, u}, 1, whole)); got != "1 [1 1] 4 0" {
			t.Errorf("%d: %s", u, got)
		}
	}
}

// P6.1: Split takes A first, and B as it was; Jump goes on behind.
func TestAlternatives(t *testing.T) {
	checkRuns(t, "a|b", map[over]string{
		{"a", 0}: "1 [0 1] 6 1", {"b", 0}: "1 [0 1] 6 1", {"c", 0}: "0 4 1", {"", 0}: "0 4 1",
	})
	checkRuns(t, "a|b|c", map[over]string{{"a", 0}: "1 [0 1] 6 1", {"b", 0}: "1 [0 1] 8 1", {"c", 0}: "1 [0 1] 8 1", {"d", 0}: "0 6 1"})
	checkRuns(t, "(?:a|ab)c", map[over]string{{"abc", 0}: "1 [0 3] 10 1", {"ac", 0}: "1 [0 2] 7 1", {"xabc", 1}: "1 [1 4] 10 1", {"abd", 0}: "0 8 1"})
	checkRun(t, "a|ab", "ab", 0, "1 [0 1] 6 1")
	checkRun(t, "ab|a", "ab", 0, "1 [0 2] 7 1")
	checkRun(t, "|a", "a", 0, "1 [0 0] 5 1")
	// The last choice that was made is the first one to go back to.
	checkRun(t, "(?:(a)|(a))(?:(b)|(b)c)$", "abc", 0, "1 [0 3 0 1 -1 -1 -1 -1 1 2] 19 2")
}

// P6.1: a choice has the slots of when it was made.
func TestSlotsOfChoices(t *testing.T) {
	checkRun(t, "(a)b|a", "ac", 0, "1 [0 1] 9 1")
	checkRun(t, "(?:(a)|b)*?c", "abc", 0, "1 [0 3 0 1] 24 2")
	checkRun(t, "(a)?ab", "ab", 0, "1 [0 2] 10 1")
	checkRun(t, "(a)*ab", "aab", 0, "1 [0 3 0 1] 24 3")
	checkRun(t, "(a(b)?)+c|ab(.)", "abd", 0, "1 [0 3 -1 -1 -1 -1 2 3] 27 3")
	// What a group had stays, while it isn't saved anew.
	checkRun(t, "(?:(a)|b)*", "ab", 0, "1 [0 2 0 1] 26 5")
	checkRun(t, "(?:(a)|(b))*", "aba", 0, "1 [0 3 2 3 1 2] 38 7")
	checkRun(t, "()()()()()()()()()", "", 0, "1 [0 0 0 0 0 0 0 0 0 0 0 0 0 0 0 0 0 0 0 0] 21 0")
	checkRun(t, "(?:()()()()()()()()(a)|b)", "b", 0, "1 [0 1] 23 1")
}

// P6.1: repeats, greedy, lazy, and those with an end.
func TestRepeats(t *testing.T) {
	checkRuns(t, "a*", map[over]string{{"", 0}: "1 [0 0] 6 1", {"b", 0}: "1 [0 0] 6 1", {"aab", 0}: "1 [0 2] 16 3", {"aab", 1}: "1 [1 2] 11 2", {"aab", 2}: "1 [2 2] 6 1"})
	checkRuns(t, "a*?", map[over]string{{"aab", 0}: "1 [0 0] 4 1", {"", 0}: "1 [0 0] 4 1"})
	checkRuns(t, "a*?b", map[over]string{{"aab", 0}: "1 [0 3] 17 1", {"b", 0}: "1 [0 1] 5 1", {"aac", 0}: "0 17 1"})
	checkRuns(t, "a+", map[over]string{{"", 0}: "0 2 0", {"aa", 0}: "1 [0 2] 12 2", {"b", 0}: "0 2 0"})
	checkRuns(t, "a?", map[over]string{{"a", 0}: "1 [0 1] 5 1", {"", 0}: "1 [0 0] 5 1"})
	checkRuns(t, "a??", map[over]string{{"a", 0}: "1 [0 0] 4 1"})
	checkRuns(t, "a{2,3}", map[over]string{{"a", 0}: "0 3 0", {"aa", 0}: "1 [0 2] 7 1", {"aaaa", 0}: "1 [0 3] 7 1"})
	checkRuns(t, "a{0,2}?b", map[over]string{{"aab", 0}: "1 [0 3] 10 1", {"aaab", 0}: "0 8 1"})
}

// P6.1: a loop that took nothing since its Mark fails at its Guard.
func TestGuards(t *testing.T) {
	checkRun(t, "(?:)*", "", 0, "1 [0 0] 6 1")
	checkRun(t, "(?:)*?b", "a", 0, "0 5 1")
	checkRun(t, "(?:|a)*", "a", 0, "1 [0 1] 17 3")
	checkRun(t, "(?:a*)*", "a", 0, "1 [0 1] 21 4")
	checkRun(t, "(?:a*)*b", "aa", 0, "0 50 6")
	checkRun(t, "(?:a|b*)*c", "abbc", 0, "1 [0 4] 38 7")
	checkRun(t, "(?:(?=a))*a", "a", 0, "1 [0 1] 10 1")
	checkRun(t, "(?:^)*?a", "ba", 1, "1 [1 2] 5 1")
	checkRun(t, "(?:(a)?)*", "a", 0, "1 [0 1 0 1] 17 4")
	// The Mark of a round that failed is undone: a round that ends where it stood goes on.
	checkRun(t, `(?:(a)|(a))*\2$`, "aa", 0, "1 [0 2 -1 -1 0 1] 80 6")
}

// P6.1: Back takes what the group took, the same units.
func TestBack(t *testing.T) {
	checkRuns(t, `(a|b)\1`, map[over]string{{"aa", 0}: "1 [0 2 0 1] 9 1", {"bb", 0}: "1 [0 2 0 1] 9 1", {"ab", 0}: "0 8 1", {"a", 0}: "0 8 1", {"aA", 0}: "0 8 1"})
	checkRuns(t, `(.*)-\1$`, map[over]string{{"ab-ab", 0}: "1 [0 5 0 2] 42 6", {"-", 0}: "1 [0 1 0 0] 18 2", {"ab-a", 0}: "0 36 5", {"ab-abc", 0}: "0 51 7"})
	checkRun(t, `(abc)\1x`, "abcabcx", 0, "1 [0 7 0 3] 10 0")
	checkRun(t, `(abc)\1x`, "abcabdx", 0, "0 7 0")
	checkRun(t, `(abc)\1`, "abcab", 0, "0 7 0")
	checkRun(t, `()\1`, "", 0, "1 [0 0 0 0] 6 0")
	checkRun(t, `(.)(.)\2\1`, "\xff\u00e9\u00e9\xff", 0, "1 [0 4 0 1 1 2] 11 0")
	nine := "(a)(b)(c)(d)(e)(f)(g)(h)(i)"
	checkRun(t, nine+`\9\1\5`, "abcdefghiiae", 0, "1 [0 12 0 1 1 2 2 3 3 4 4 5 5 6 6 7 7 8 8 9] 33 0")
}

// P6.1: Back to a group that has no beginning or no end fails.
func TestBackUnset(t *testing.T) {
	checkRun(t, `\1()`, "", 0, "0 2 0")
	checkRun(t, `(a\1)`, "aa", 0, "0 4 0")
	checkRun(t, `(\1)`, "", 0, "0 3 0")
	checkRun(t, `(?:(a)|b)\1`, "ba", 0, "0 6 1")
	checkRun(t, `(?:\1b|(a))*`, "aab", 0, "1 [0 3 0 1] 26 5")
	checkRun(t, `(?:(a)x|a)\1?`, "aa", 0, "1 [0 1] 11 1")
}

// P6.1: a group that has begun anew, behind its end, is as none.
func TestBackAhead(t *testing.T) {
	checkRun(t, `(?:(a|b\1)x)*`, "axbx", 0, "1 [0 4 2 3] 30 5")
	checkRun(t, `(?:(a|b\1c)x)*`, "axbcx", 0, "1 [0 5 2 4] 31 5")
	checkRun(t, `(?:(aa|b\1c)x)*$`, "aaxbaacx", 0, "0 23 4")
}

// P6.1: Back with twins; without a fold the letters are as they are.
func TestBackFolded(t *testing.T) {
	checkRuns(t, `(?i)(..)\1`, map[over]string{{"abAB", 0}: "1 [0 4 0 2] 8 0", {"aBAb", 0}: "1 [0 4 0 2] 8 0", {"abab", 0}: "1 [0 4 0 2] 8 0", {"abac", 0}: "0 6 0", {"zZZz", 0}: "1 [0 4 0 2] 8 0"})
	checkRuns(t, `(..)\1`, map[over]string{{"abAB", 0}: "0 6 0", {"abab", 0}: "1 [0 4 0 2] 8 0"})
	// What lies beside the letters has no twin.
	for _, pair := range []string{"@`", "[{", "09", "_\x7f", "k\u212a", "\u00e9\u00c9", "aB", "\x01!"} {
		checkRun(t, `(?i)(.)\1`, pair, 0, "0 5 0")
		back := units(pair)
		slices.Reverse(back)
		if got := show(vm.Run(compiled(t, `(?i)(.)\1`), back, 0, whole)); got != "0 5 0" {
			t.Errorf("%q: %s", pair, got)
		}
	}
}

// P6.1: the beginning and the end.
func TestEnds(t *testing.T) {
	checkRuns(t, "^", map[over]string{{"", 0}: "1 [0 0] 4 0", {"ab", 0}: "1 [0 0] 4 0", {"ab", 1}: "0 2 0", {"ab", 2}: "0 2 0", {"\nb", 1}: "0 2 0"})
	checkRuns(t, "$", map[over]string{{"", 0}: "1 [0 0] 4 0", {"ab", 0}: "0 2 0", {"ab", 1}: "0 2 0", {"ab", 2}: "1 [2 2] 4 0", {"a\n", 1}: "0 2 0"})
}

// P6.1: the edges of words, with each unit that is one's and each beside those.
func TestWords(t *testing.T) {
	word := "abcdefghijklmnopqrstuvwxyzABCDEFGHIJKLMNOPQRSTUVWXYZ0123456789_"
	yes, no := "1 [1 1] 4 0", "0 2 0"
	for u := -2; u < 300; u++ {
		of := u >= 0 && u < 128 && strings.IndexByte(word, byte(u)) >= 0
		for _, other := range []int{'a', '-'} {
			edge, none := yes, no
			if of == (other == 'a') {
				edge, none = no, yes
			}
			for _, text := range [][]int{{u, other}, {other, u}} {
				if got := show(vm.Run(compiled(t, `\b`), text, 1, whole)); got != edge {
					t.Errorf("%v: %s, not %s", text, got, edge)
				}
				if got := show(vm.Run(compiled(t, `\B`), text, 1, whole)); got != none {
					t.Errorf("%v: %s, not %s", text, got, none)
				}
			}
		}
	}
	// Beyond the text there is no word.
	checkRuns(t, `\b`, map[over]string{{"", 0}: "0 2 0", {"a", 0}: "1 [0 0] 4 0", {"a", 1}: "1 [1 1] 4 0", {"-", 0}: "0 2 0", {"-", 1}: "0 2 0"})
	checkRuns(t, `\B`, map[over]string{{"", 0}: "1 [0 0] 4 0", {"a", 0}: "0 2 0", {"a", 1}: "0 2 0", {"-", 0}: "1 [0 0] 4 0", {"-", 1}: "1 [1 1] 4 0"})
}

// P6.1: a look ahead takes nothing; its run has no target.
func TestLookAhead(t *testing.T) {
	checkRuns(t, "(?=a)", map[over]string{{"a", 0}: "1 [0 0] 6 0", {"b", 0}: "0 3 0", {"", 0}: "0 3 0", {"ba", 1}: "1 [1 1] 6 0"})
	checkRuns(t, "(?!a)", map[over]string{{"a", 0}: "0 4 0", {"b", 0}: "1 [0 0] 5 0", {"", 0}: "1 [0 0] 5 0"})
	checkRun(t, "(?=abc)a", "abc", 0, "1 [0 1] 9 0")
	checkRun(t, "(?=)", "", 0, "1 [0 0] 5 0")
	checkRun(t, "(?!)", "", 0, "0 3 0")
	checkRun(t, "(?=a|b)", "b", 0, "1 [0 0] 8 1")
	checkRun(t, "(?!(?!a))a", "a", 0, "1 [0 1] 8 0")
}

// P6.1: a look behind tries its widths from the least on, with the position as the target.
func TestLookBehind(t *testing.T) {
	checkRuns(t, "(?<=a)", map[over]string{{"ab", 0}: "0 2 0", {"ab", 1}: "1 [1 1] 6 0", {"ab", 2}: "0 3 0"})
	checkRuns(t, "(?<!a)", map[over]string{{"ab", 0}: "1 [0 0] 4 0", {"ab", 1}: "0 4 0", {"ab", 2}: "1 [2 2] 5 0"})
	// One width after the other, and none above the position.
	checkRuns(t, "(?<=a|bc)", map[over]string{{"bc", 0}: "0 2 0", {"bc", 1}: "0 7 1", {"bc", 2}: "1 [2 2] 12 1", {"ba", 2}: "1 [2 2] 8 1", {"xx", 2}: "0 8 1"})
	checkRuns(t, "(?<!a|bc)", map[over]string{{"bc", 0}: "1 [0 0] 4 0", {"bc", 1}: "1 [1 1] 9 1", {"bc", 2}: "0 10 1", {"ba", 2}: "0 6 1", {"xx", 2}: "1 [2 2] 10 1"})
	// A way that ends elsewhere than at the target fails.
	checkRun(t, "(?<=a|ab)", "ab", 2, "1 [2 2] 14 1")
	checkRun(t, "(?<=aa?)", "aa", 1, "1 [1 1] 9 1")
	checkRun(t, "(?<=a?)", "aa", 1, "1 [1 1] 8 1")
	checkRun(t, "(?<=a?b)", "ab", 1, "0 7 1")
	checkRun(t, "(?<=a??)", "aa", 2, "1 [2 2] 6 1")
	// The least width that will do is taken, and so are its groups.
	checkRun(t, "(?<=(a|ba))", "ba", 2, "1 [2 2 1 2] 10 1")
	checkRun(t, "(?<=(a{2,4}?))", "aaaaa", 5, "1 [5 5 3 5] 10 1")
	checkRun(t, "(?<=(b??a{0,3}))", "aaab", 3, "1 [3 3 3 3] 10 2")
	checkRun(t, "(?<=a{32})", strings.Repeat("a", 40), 33, "1 [33 33] 37 0")
	checkRun(t, "(?<=a{32})", strings.Repeat("a", 40), 31, "0 2 0")
	checkRun(t, "(?<=ba{0,31})", "b"+strings.Repeat("a", 40), 32, "1 [32 32] 99 31")
}

// P6.1: looks within looks: each run has a target of its own, or none.
func TestNestedLooks(t *testing.T) {
	checkRun(t, "(?<=(?=ab)a)b", "ab", 1, "1 [1 2] 11 0")
	checkRun(t, "(?=(?<=a)b)b", "ab", 1, "1 [1 2] 10 0")
	checkRun(t, "(?<=(?<=a)b)c", "abc", 2, "1 [2 3] 10 0")
	checkRun(t, "(?<=(?<!a)b)c", "abc", 2, "0 5 0")
	checkRun(t, "(?<=(?>ab?))b", "abb", 2, "1 [2 3] 13 1")
	checkRun(t, "(?<=(?>ab?))b", "abb", 1, "0 8 1")
	checkRun(t, "(?<=(?>a|ab))", "ab", 2, "0 12 1")
	checkRun(t, "(?!(?!(?!a)))a", "a", 0, "0 7 0")
}

// P6.1: the slots are as a look or an atomic part that succeeded left them; one that must not be there leaves nothing.
func TestSlotsOfRuns(t *testing.T) {
	checkRun(t, "(?=(a))a", "a", 0, "1 [0 1 0 1] 9 0")
	checkRun(t, "(?<=(a))", "a", 1, "1 [1 1 0 1] 8 0")
	checkRun(t, "(?>(a))", "a", 0, "1 [0 1 0 1] 8 0")
	checkRun(t, `(?=(a))a\1`, "aa", 0, "1 [0 2 0 1] 10 0")
	// A run that failed leaves the slots as they were when it began.
	checkRun(t, "(?!(a)b)a", "ac", 0, "1 [0 1] 9 0")
	checkRun(t, "(?<!(a)b)c", "acc", 2, "1 [2 3] 9 0")
	checkRun(t, "(?<=(a)|(b)c)", "bc", 2, "1 [2 2 -1 -1 0 1] 17 1")
	checkRun(t, "(.)(?!(?:(.)c|(.)d))", "xab", 0, "1 [0 1 0 1] 16 1")
	checkRun(t, "(a)(?:(?!(?=(b))bc)(b)|x)", "abd", 0, "1 [0 2 0 1 -1 -1 1 2] 19 1")
	// One that must not be there, and is, is undone with what fails.
	checkRun(t, "(?!(a))b|a", "a", 0, "1 [0 1] 10 1")
	// What a run that succeeded left is undone, if what is behind it fails.
	checkRun(t, "(?=(a))b|a", "a", 0, "1 [0 1] 11 1")
	checkRun(t, "(?>(a))b|a", "a", 0, "1 [0 1] 11 1")
	checkRun(t, "(?<=(a))b|c", "ac", 1, "1 [1 2] 11 1")
	checkRun(t, "(?!(?=(a))b)a", "a", 0, "1 [0 1] 11 0")
	checkRun(t, "(?>(?>(a))b|a)", "a", 0, "1 [0 1] 13 1")
}

// P6.1: an atomic part goes on where its run ended, and has no choices any more.
func TestAtomic(t *testing.T) {
	checkRuns(t, "(?>a|ab)c", map[over]string{{"abc", 0}: "0 7 1", {"ac", 0}: "1 [0 2] 9 1"})
	checkRun(t, "(?>ab|a)c", "abc", 0, "1 [0 3] 10 1")
	checkRun(t, "(?>a)", "b", 0, "0 3 0")
	checkRun(t, "(?>)a", "a", 0, "1 [0 1] 6 0")
	checkRun(t, "a?+a", "a", 0, "0 6 1")
	checkRun(t, "a*+a", "aa", 0, "0 17 3")
	checkRun(t, "a*+b", "aab", 0, "1 [0 3] 19 3")
	checkRun(t, "(?:a|aa)++a", "aaa", 0, "0 26 7")
	checkRun(t, "(?>a*)ab|aab", "aab", 0, "1 [0 3] 23 4")
	// A choice ahead of it stays.
	checkRun(t, "a?(?>a)b", "ab", 0, "1 [0 2] 11 1")
	checkRun(t, "(?>(?>a|ab)c|abd)e", "abde", 0, "1 [0 4] 16 2")
}

// P6.1: a run goes back to its own choices alone; Stack and Deep count those of all runs.
func TestChoicesOfRuns(t *testing.T) {
	// The inner run has choices of its own alone: it fails ahead of the outer one's.
	checkRun(t, "(?:a|b)(?=c)", "ad", 0, "0 7 1")
	checkRun(t, "(?:a|ab)(?=c)", "abc", 0, "1 [0 2] 13 1")
	checkRun(t, "(?:a|ab)(?!b)", "abc", 0, "1 [0 2] 13 1")
	checkRun(t, "(?:a|ab)(?>c)", "abc", 0, "1 [0 3] 13 1")
	checkRun(t, "(?:a|ab)(?<=b)", "abc", 0, "1 [0 2] 13 1")
	// All runs' choices count for Deep; those of a run that succeeded are there no more.
	checkRun(t, "(?:a|b)(?=c|d)", "ac", 0, "1 [0 1] 11 2")
	checkRun(t, "(?=c|d)(?:c|d)", "c", 0, "1 [0 1] 11 1")
	checkRun(t, "(?>c|d)(?:c|d)", "cc", 0, "1 [0 2] 11 1")
	checkRun(t, "(?!c|d)|c", "c", 0, "1 [0 1] 10 2")
	checkRun(t, "(?:a|b)(?>c|d)(?>c|d)(?=c|d)", "accc", 0, "1 [0 3] 21 2")
	checkRun(t, "(?<=c|d)(?:c|d)", "cc", 1, "1 [1 2] 11 1")
	checkRun(t, "(?>a|(?>b|(?>c|d)))", "d", 0, "1 [0 1] 16 1")
	checkRun(t, "(?>(?>(?>c|d)|b)|a)", "d", 0, "1 [0 1] 16 3")
	// A run that succeeded where it must not is not gone back into.
	checkRun(t, "(?:(?!(?:c|d)(?:c|d))c|x)(?:d|e)", "cd", 0, "0 11 3")
}

// P6.1: Fuel is for all steps, those of looks and atomic parts, too.
func TestFuel(t *testing.T) {
	p, u := compiled(t, "(?=a)(?>a|b)(?<!b)"), units("a")
	enough := "1 [0 1] 13 1"
	if got := show(vm.Run(p, u, 0, whole)); got != enough {
		t.Fatal(got)
	}
	for fuel := 1; fuel < 20; fuel++ {
		want := enough
		if fuel < 13 {
			deep := 0
			if fuel >= 6 {
				deep = 1
			}
			want = fmt.Sprint("2 ", fuel, " ", deep)
		}
		if got := show(vm.Run(p, u, 0, vm.Budget{Fuel: fuel, Stack: 1})); got != want {
			t.Errorf("Fuel %d: %s, not %s", fuel, got, want)
		}
	}
	// A match that has no end but that of the budget.
	long := units(strings.Repeat("a", 40))
	for _, pattern := range []string{"(?:a|a)*b", "(?=(?:a|a)*b)", "(?!(?:a|a)*b)", "(?>(?:a|a)*b)", "x|(?:a|a)*b"} {
		for _, fuel := range []int{1000, api.MaxFuel - 1, api.MaxFuel} {
			r, e := vm.Run(compiled(t, pattern), long, 0, vm.Budget{Fuel: fuel, Stack: api.MaxStack})
			if e != api.OK || r.Kind != 2 || r.Steps != fuel || len(r.Caps) != 0 {
				t.Errorf("%q: %+v, %d", pattern, r, e)
			}
		}
	}
}

// P6.1: a Split that finds no room ends all; it is a step.
func TestStack(t *testing.T) {
	for _, c := range []struct {
		pattern, text string
		stack         int
		want          string
	}{
		{"a", "a", 0, "1 [0 1] 4 0"},
		{"a|b", "a", 0, "2 2 0"},
		{"a|b", "a", 1, "1 [0 1] 6 1"},
		{"a*", "aa", 0, "2 2 0"},
		{"a*", "aa", 1, "2 7 1"},
		{"a*", "aa", 2, "2 12 2"},
		{"a*", "aa", 3, "1 [0 2] 16 3"},
		{"a*?", "aa", 0, "2 2 0"},
		{"(?:a|b)(?=c|d)", "ac", 1, "2 6 1"},
		{"(?:a|b)(?!c|d)", "ac", 1, "2 6 1"},
		{"(?:a|b)(?>c|d)", "ac", 1, "2 6 1"},
		{"(?:a|b)(?<=c|a)", "ac", 1, "2 6 1"},
		{"(?:a|b)(?<!c|a)", "ac", 1, "2 6 1"},
		{"(?=c|d)(?:c|d)", "c", 1, "1 [0 1] 11 1"},
		{"(?:(?=c|d))*", "c", 1, "2 5 1"},
	} {
		if got := show(vm.Run(compiled(t, c.pattern), units(c.text), 0, vm.Budget{Fuel: 1000, Stack: c.stack})); got != c.want {
			t.Errorf("%q over %q, Stack %d: %s, not %s", c.pattern, c.text, c.stack, got, c.want)
		}
	}
	// Where both are over Fuel is: it is asked ahead of the instruction.
	if got := show(vm.Run(compiled(t, "a|b"), units("a"), 0, vm.Budget{Fuel: 1, Stack: 0})); got != "2 1 0" {
		t.Error(got)
	}
	full := units(strings.Repeat("a", api.MaxText))
	if got := show(vm.Run(compiled(t, "(?:a|b|c)*"), full, 0, whole)); !strings.HasPrefix(got, "1 [0 2000] ") || !strings.HasSuffix(got, " 4002") {
		t.Error(got)
	}
	if got := show(vm.Run(compiled(t, "(?:a|b|c)*a*?(?:|){64}(?:|){31}x"), full, 0, whole)); !strings.HasPrefix(got, "2 ") || !strings.HasSuffix(got, " 4096") {
		t.Error(got)
	}
}

// P6.2: one run after the other, with one budget.
func TestFind(t *testing.T) {
	for _, c := range [][3]string{
		{"b", "aab", "1 [2 3] 8 0"},
		{"b", "aa", "0 6 0"},
		{"b", "", "0 2 0"},
		{"", "aa", "1 [0 0] 3 0"},
		{"", "", "1 [0 0] 3 0"},
		{"$", "aa", "1 [2 2] 8 0"},
		{"^a", "ba", "0 7 0"},
		{"a*", "baa", "1 [0 0] 6 1"},
		{"a+", "baa", "1 [1 3] 14 2"},
		{"a|b", "cc", "0 12 1"},
		{"aa*d|c", "aac", "1 [2 3] 28 3"},
		{"(a)b|c", "aac", "1 [2 3] 21 1"},
		{"(?<=a)b", "bab", "1 [2 3] 12 0"},
		{`\bb`, "ab b", "1 [3 4] 13 0"},
		{"(a|ab)(c|bcd)", "xabcd", "1 [1 5 1 2 2 5] 20 2"},
	} {
		checkFind(t, c[0], c[1], c[2])
	}
}

// P6.2: the budget is over wherever its steps are done, be it between two runs.
func TestFindFuel(t *testing.T) {
	p, u := compiled(t, "b"), units("aab")
	for fuel, want := range map[int]string{1: "2 1 0", 2: "2 2 0", 3: "2 3 0", 4: "2 4 0", 5: "2 5 0", 7: "2 7 0", 8: "1 [2 3] 8 0", 9: "1 [2 3] 8 0"} {
		if got := show(vm.Find(p, u, vm.Budget{Fuel: fuel})); got != want {
			t.Errorf("Fuel %d: %s, not %s", fuel, got, want)
		}
	}
	u = units("aa")
	for fuel, want := range map[int]string{1: "2 1 0", 2: "2 2 0", 4: "2 4 0", 5: "2 5 0", 6: "0 6 0", 7: "0 6 0"} {
		if got := show(vm.Find(p, u, vm.Budget{Fuel: fuel})); got != want {
			t.Errorf("Fuel %d: %s, not %s", fuel, got, want)
		}
	}
	// A run that has no room for its choices ends all, also where a later one would succeed.
	if got := show(vm.Find(compiled(t, "aa?c|b"), u, vm.Budget{Fuel: 100, Stack: 1})); got != "2 4 1" {
		t.Error(got)
	}
	if got := show(vm.Find(compiled(t, "a(?:a|c)d|c"), units("aac"), vm.Budget{Fuel: 100, Stack: 1})); got != "2 4 1" {
		t.Error(got)
	}
	r, e := vm.Find(compiled(t, "(?:a|a)*b"), units(strings.Repeat("a", 40)), whole)
	if e != api.OK || r.Kind != 2 || r.Steps != api.MaxFuel {
		t.Error(r, e)
	}
}

// P6.2: Find is Run at 0, 1, and so on, up to the end.
func TestFindIsRuns(t *testing.T) {
	for _, pattern := range []string{"a", "b+", "(?<=b)a", "a*b", `\Bb`, "(a)(b)?c", `(.)\1`, "$", "x", "(?:a|b)+c", "(?>b*)c", "(?!a)"} {
		for _, text := range []string{"", "a", "ab", "aabbc", "bbbac", "cabcabbc"} {
			p, u := compiled(t, pattern), units(text)
			got, e := vm.Find(p, u, whole)
			want := vm.Result{}
			for from := 0; from <= len(u) && want.Kind == 0; from++ {
				one, _ := vm.Run(p, u, from, whole)
				want = vm.Result{Kind: one.Kind, Caps: one.Caps, Steps: want.Steps + one.Steps, Deep: max(want.Deep, one.Deep)}
			}
			if show(got, e) != show(want, api.OK) {
				t.Errorf("%q in %q: %+v, not %+v", pattern, text, got, want)
			}
		}
	}
}

// checkErrors asks for Run's answer and Find's to a budget, a text and a position.
func checkErrors(t *testing.T, b vm.Budget, u []int, from int, run, find string) {
	t.Helper()
	p := compiled(t, "^")
	if got := show(vm.Run(p, u, from, b)); got != run {
		t.Errorf("%+v, %d units, at %d: %s, not %s", b, len(u), from, got, run)
	}
	if got := show(vm.Find(p, u, b)); got != find {
		t.Errorf("%+v, %d units: %s, not %s", b, len(u), got, find)
	}
}

// P6.1 and P6.2: ErrForm, of a budget that isn't right, ahead of the others.
func TestErrForm(t *testing.T) {
	right, form := "1 [0 0] 4 0", fmt.Sprint("error ", int(api.ErrForm))
	for _, b := range []vm.Budget{{0, 0}, {-1, 5}, {math.MinInt, 5}, {api.MaxFuel + 1, 5}, {math.MaxInt, 5}, {5, -1}, {5, math.MinInt}, {5, api.MaxStack + 1}, {5, math.MaxInt}, {0, -1}, {api.MaxFuel + 1, api.MaxStack + 1}} {
		checkErrors(t, b, nil, 0, form, form)
		checkErrors(t, b, nil, 1, form, form)
		checkErrors(t, b, make([]int, api.MaxText+1), -1, form, form)
		if got := show(vm.Run(nil, nil, 0, b)); got != form {
			t.Error(got)
		}
	}
	for _, b := range []vm.Budget{{4, 0}, {api.MaxFuel, 0}, {4, api.MaxStack}, whole} {
		checkErrors(t, b, nil, 0, right, right)
	}
	checkErrors(t, vm.Budget{Fuel: 1, Stack: 0}, nil, 0, "2 1 0", "2 1 0")
}

// P6.1 and P6.2: ErrBig, of a text that is too long, ahead of ErrRange.
func TestErrBig(t *testing.T) {
	right, big := "1 [0 0] 4 0", fmt.Sprint("error ", int(api.ErrBig))
	for _, size := range []int{api.MaxText + 1, api.MaxText + 2, 3 * api.MaxText} {
		for _, from := range []int{0, 1, size, -1, size + 1} {
			checkErrors(t, whole, make([]int, size), from, big, big)
		}
	}
	checkErrors(t, whole, make([]int, api.MaxText), 0, right, right)
	checkRun(t, "$", strings.Repeat("a", api.MaxText), api.MaxText, "1 [2000 2000] 4 0")
	checkFind(t, "$", strings.Repeat("a", api.MaxText), "1 [2000 2000] 4004 0")
	// Units are counted, not bytes.
	checkRun(t, "", strings.Repeat("\u00e9", api.MaxText), 1, "1 [1 1] 3 0")
}

// P6.1: ErrRange, of a position that isn't there.
func TestErrRange(t *testing.T) {
	right, out := "1 [0 0] 4 0", fmt.Sprint("error ", int(api.ErrRange))
	for _, from := range []int{-1, 3, 4, math.MinInt, math.MaxInt} {
		checkErrors(t, whole, units("ab"), from, out, right)
	}
	for _, from := range []int{-1, 1, 2} {
		checkErrors(t, whole, nil, from, out, right)
	}
	checkErrors(t, whole, units("ab"), 2, "0 2 0", right)
	checkErrors(t, whole, units("ab"), 1, "0 2 0", right)
	checkErrors(t, whole, []int{}, 0, right, right)
}

// P6.1: the greatest programs, with hundreds of loops, and with runs as deep as parentheses go.
func TestGreatPrograms(t *testing.T) {
	checkRun(t, "(?:(?:a*){6}){64}", "aaa", 0, "1 [0 3] 1170 4")
	checkRun(t, strings.Repeat("(?>", 32)+"a"+strings.Repeat(")", 32), "a", 0, "1 [0 1] 68 0")
	checkRun(t, strings.Repeat("(?>", 32)+"a"+strings.Repeat(")?+", 32), "a", 0, "1 [0 1] 164 32")
	checkRun(t, strings.Repeat("(?!", 32)+"a"+strings.Repeat(")", 32), "a", 0, "1 [0 0] 52 0")
	checkRun(t, strings.Repeat("(?<=", 31)+"a"+strings.Repeat(")", 31), "a", 1, "1 [1 1] 66 0")
	checkRun(t, "(?:a{31}){64}a{13}", strings.Repeat("a", api.MaxText), 0, "1 [0 1997] 2000 0")
}

// Rules that hold everywhere: what is handed in is neither changed nor kept, and what is told is new memory.
func TestMemory(t *testing.T) {
	pattern := `(?i)(a|b*)(?=(c)?)(?<!d|ee)(?>\1*)c*?\b`
	room := units("xxabbABBcddxx")
	u := room[1:7:9]
	p, again, before := compiled(t, pattern), compiled(t, pattern), slices.Clone(room)
	first, e := vm.Find(p, u, whole)
	want := show(first, e)
	second, e := vm.Find(p, u, whole)
	if got := show(second, e); got != want || first.Kind != 1 {
		t.Errorf("%s, not %s", got, want)
	}
	if !reflect.DeepEqual(p, again) || !slices.Equal(room, before) {
		t.Fatalf("%v over %v, not %v over %v", p, room, again, before)
	}
	spoiled := second.Caps[:cap(second.Caps)]
	for at := range spoiled {
		spoiled[at] = 77
	}
	if got := show(first, api.OK); got != want {
		t.Errorf("%s, not %s", got, want)
	}
	clear(room)
	clear(p)
	if got := show(first, api.OK); got != want {
		t.Errorf("%s, not %s", got, want)
	}
}

// What a call answers hangs on its arguments: calls at one time, of one program, answer as one alone.
func TestAtOneTime(t *testing.T) {
	p, u := compiled(t, `(?:(a)|(b))*(?=(.))\1`), units("abababca")
	want := show(vm.Find(p, u, whole))
	got := make([]string, 8)
	done := make(chan struct{})
	for worker := range got {
		go func() {
			got[worker] = show(vm.Find(p, u, whole))
			done <- struct{}{}
		}()
	}
	for range got {
		<-done
	}
	for _, one := range got {
		if one != want {
			t.Errorf("%s, not %s", one, want)
		}
	}
}
