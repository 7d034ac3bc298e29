package prog_test

import (
	"reflect"
	"slices"
	"strconv"
	"strings"
	"testing"
	"time"

	"colander/api"
	"colander/class"
	"colander/parse"
	"colander/prog"
	"colander/shape"
)

// names are the Ops' names, each at its number; numbers are how many numbers each of them names, the last one of which is told even if it is 0.
var (
	names   = []string{"Match", "Set", "Jump", "Split", "Save", "Back", "Edge", "Look", "Atomic", "Done", "Mark", "Guard"}
	numbers = []int{0, 0, 1, 2, 1, 2, 1, 4, 2, 0, 1, 1}
)

// show is an instruction's text: its Op, its numbers (more of them than it names, if they aren't 0), its Set.
func show(i prog.Inst) string {
	if i.Op < 0 || i.Op >= len(names) {
		return "Op " + strconv.Itoa(i.Op)
	}
	parts := []string{names[i.Op]}
	all := []int{i.A, i.B, i.C, i.D}
	for at, n := range all {
		if at < numbers[i.Op] || slices.ContainsFunc(all[at:], func(m int) bool { return m != 0 }) {
			parts = append(parts, strconv.Itoa(n))
		}
	}
	if i.Op == 1 && len(i.Set) == 0 {
		parts = append(parts, "nothing")
	}
	for _, r := range i.Set {
		parts = append(parts, showRange(r))
	}
	return strings.Join(parts, " ")
}

func showRange(r class.Range) string {
	if r.Lo == r.Hi {
		return showUnit(r.Lo)
	}
	return showUnit(r.Lo) + "-" + showUnit(r.Hi)
}

// showUnit is a unit's text: itself, if it is to be seen; else its number.
func showUnit(u int) string {
	if '!' <= u && u <= '~' {
		return string(rune(u))
	}
	return "#" + strconv.Itoa(u)
}

// showAll is a program's text.
func showAll(p []prog.Inst) string {
	var parts []string
	for _, i := range p {
		parts = append(parts, show(i))
	}
	return strings.Join(parts, "; ")
}

// read is a pattern that must be right.
func read(t *testing.T, text string) parse.Pattern {
	t.Helper()
	p, f := parse.Parse(text)
	if f != (parse.Fault{}) {
		t.Fatalf("%q: %+v", text, f)
	}
	return p
}

// compiled is the program of a pattern that must have one.
func compiled(t *testing.T, text string) []prog.Inst {
	t.Helper()
	p, e := prog.Compile(read(t, text))
	if e != api.OK {
		t.Fatalf("%q: %d", text, e)
	}
	return p
}

// checkProgram asks for a whole program.
func checkProgram(t *testing.T, text, want string) {
	t.Helper()
	if got := showAll(compiled(t, text)); got != want {
		t.Errorf("%q:\n%s, not\n%s", text, got, want)
	}
}

// checkCode asks for the code of a pattern's root, which begins at the place 1.
func checkCode(t *testing.T, text, want string) {
	t.Helper()
	if want != "" {
		want += "; "
	}
	checkProgram(t, text, "Save 0; "+want+"Save 1; Match")
}

func checkCodes(t *testing.T, cases map[string]string) {
	t.Helper()
	for text, want := range cases {
		checkCode(t, text, want)
	}
}

// checkError asks for an error, and no program.
func checkError(t *testing.T, text string, want api.Errno) {
	t.Helper()
	if p, e := prog.Compile(read(t, text)); e != want || len(p) != 0 {
		t.Errorf("%q: %d and %d instructions, not %d", text, e, len(p), want)
	}
}

// P5.1: the Ops' numbers.
func TestOps(t *testing.T) {
	ops := []int{prog.Match, prog.Set, prog.Jump, prog.Split, prog.Save, prog.Back, prog.Edge, prog.Look, prog.Atomic, prog.Done, prog.Mark, prog.Guard}
	if !slices.Equal(ops, []int{0, 1, 2, 3, 4, 5, 6, 7, 8, 9, 10, 11}) {
		t.Error(ops)
	}
}

// P5.1: the chapter's examples, whole.
func TestExamples(t *testing.T) {
	checkProgram(t, "a|b", "Save 0; Split 2 4; Set a; Jump 5; Set b; Save 1; Match")
	checkProgram(t, "a*", "Save 0; Split 2 6; Mark 0; Set a; Guard 0; Jump 1; Save 1; Match")
	checkProgram(t, "", "Save 0; Save 1; Match")
}

// P5.1: nodes without a kid, and rows of nodes.
func TestRows(t *testing.T) {
	checkCodes(t, map[string]string{
		"(?:)": "", "(?:)(?:)": "", "a": "Set a", "[a-cx]": "Set a-c x", `\d`: "Set 0-9", ".": "Set #0-#9 #11-#1114367", "\u00e9": "Set #233", "\xff": "Set #1114367", "[^a]": "Set #0-` b-#1114367", `[^\d\D]`: "Set nothing",
		"^": "Edge 0", "$": "Edge 1", `\b`: "Edge 2", `\B`: "Edge 3", `^$\b\B`: "Edge 0; Edge 1; Edge 2; Edge 3",
		"abc": "Set a; Set b; Set c", "a(?:)b": "Set a; Set b", "a(?:bc)d": "Set a; Set b; Set c; Set d", "^a$": "Edge 0; Set a; Edge 1",
	})
}

// P5.1: alternatives: where each Split and each Jump leads.
func TestAlternatives(t *testing.T) {
	checkCodes(t, map[string]string{
		"|":         "Split 2 3; Jump 3",
		"a|":        "Split 2 4; Set a; Jump 4",
		"|a":        "Split 2 3; Jump 4; Set a",
		"||":        "Split 2 3; Jump 5; Split 4 5; Jump 5",
		"a|b|c":     "Split 2 4; Set a; Jump 8; Split 5 7; Set b; Jump 8; Set c",
		"ab|c|def":  "Split 2 5; Set a; Set b; Jump 11; Split 6 8; Set c; Jump 11; Set d; Set e; Set f",
		"x(?:a|b)y": "Set x; Split 3 5; Set a; Jump 6; Set b; Set y",
		"(?:a|b)|c": "Split 2 7; Split 3 5; Set a; Jump 6; Set b; Jump 8; Set c",
		"c|(?:a|b)": "Split 2 4; Set c; Jump 8; Split 5 7; Set a; Jump 8; Set b",
	})
}

// P5.1: groups, and the slots of each of them.
func TestGroups(t *testing.T) {
	checkCodes(t, map[string]string{
		"()":        "Save 2; Save 3",
		"(a)":       "Save 2; Set a; Save 3",
		"(a)(b)":    "Save 2; Set a; Save 3; Save 4; Set b; Save 5",
		"((a)b)(c)": "Save 2; Save 4; Set a; Save 5; Set b; Save 3; Save 6; Set c; Save 7",
		"(?:(?:a))": "Set a",
		"(a|b)":     "Save 2; Split 3 5; Set a; Jump 6; Set b; Save 3",
		"(a){2}":    "Save 2; Set a; Save 3; Save 2; Set a; Save 3",

		"()()()()()()()()()": "Save 2; Save 3; Save 4; Save 5; Save 6; Save 7; Save 8; Save 9; Save 10; Save 11; Save 12; Save 13; Save 14; Save 15; Save 16; Save 17; Save 18; Save 19",
	})
}

// P5.1: what goes back to a group, with twins or without them.
func TestBacks(t *testing.T) {
	checkCodes(t, map[string]string{
		`()\1`:         "Save 2; Save 3; Back 1 0",
		`(?i)()\1`:     "Save 2; Save 3; Back 1 1",
		`\2()()\1`:     "Back 2 0; Save 2; Save 3; Save 4; Save 5; Back 1 0",
		`(\1)`:         "Save 2; Back 1 0; Save 3",
		`(?i)(\1|\1)`:  "Save 2; Split 3 5; Back 1 1; Jump 6; Back 1 1; Save 3",
		`()(?>\1{2})`:  "Save 2; Save 3; Atomic 0 7; Back 1 0; Back 1 0; Done",
		`(?i)()(?=\1)`: "Save 2; Save 3; Look 0 6 0 0; Back 1 1; Done",
	})
	nine := strings.Repeat("()", 9)
	if got := show(compiled(t, nine+`\9`)[19]); got != "Back 9 0" {
		t.Error(got)
	}
}

// P5.1: looks of each Mode: up to where, and how wide.
func TestLooks(t *testing.T) {
	checkCodes(t, map[string]string{
		"(?=a)":          "Look 0 4 0 0; Set a; Done",
		"(?!a)":          "Look 1 4 0 0; Set a; Done",
		"(?<=a)":         "Look 2 4 1 1; Set a; Done",
		"(?<!a)":         "Look 3 4 1 1; Set a; Done",
		"(?=)":           "Look 0 3 0 0; Done",
		"(?<!)":          "Look 3 3 0 0; Done",
		"x(?=ab)y":       "Set x; Look 0 6 0 0; Set a; Set b; Done; Set y",
		"(?=a*)":         "Look 0 8 0 0; Split 3 7; Mark 0; Set a; Guard 0; Jump 2; Done",
		"(?!a|bc)":       "Look 1 8 0 0; Split 3 5; Set a; Jump 7; Set b; Set c; Done",
		"(?<=a|bc)":      "Look 2 8 1 2; Split 3 5; Set a; Jump 7; Set b; Set c; Done",
		"(?<!a?)":        "Look 3 5 0 1; Split 3 4; Set a; Done",
		"(?<=(ab))":      "Look 2 7 2 2; Save 2; Set a; Set b; Save 3; Done",
		"(?<!(?<=ab)c)":  "Look 3 8 1 1; Look 2 6 2 2; Set a; Set b; Done; Set c; Done",
		"(?=(?!a))b":     "Look 0 6 0 0; Look 1 5 0 0; Set a; Done; Done; Set b",
		"(?<=(?=ab*)c|)": "Look 2 14 0 1; Split 3 13; Look 0 11 0 0; Set a; Split 6 10; Mark 0; Set b; Guard 0; Jump 5; Done; Set c; Jump 13; Done",
	})
}

// P5.1: how wide a look behind is; a look ahead isn't asked.
func TestLookWidths(t *testing.T) {
	for kid, want := range map[string][2]int{
		"": {0, 0}, "a": {1, 1}, "ab": {2, 2}, "a?": {0, 1}, "a|bcd|ef": {1, 3}, "|ab": {0, 2}, "a{32}": {32, 32}, "a{31}": {31, 31}, "a{0,32}": {0, 32}, "a{3,5}?": {3, 5}, "(?:ab){2,16}+": {4, 32}, "(?:a*){0}": {0, 0}, "(?:)*": {0, 0}, "^a$": {1, 1}, "(?=b*)a": {1, 1}, "(?<=abc)a": {1, 1}, "(?>a|bc)": {1, 2}, "()(a)": {1, 1}, ".{2}[^a]": {3, 3},
	} {
		for mode, open := range []string{"(?=", "(?!", "(?<=", "(?<!"} {
			i := compiled(t, open+kid+")")[1]
			c, d := 0, 0
			if mode >= 2 {
				c, d = want[0], want[1]
			}
			if i.Op != 7 || i.A != mode || i.C != c || i.D != d {
				t.Errorf("%s%s): %s, not %d and %d", open, kid, show(i), c, d)
			}
		}
	}
}

// P5.1: what is atomic, and up to where.
func TestAtomics(t *testing.T) {
	checkCodes(t, map[string]string{
		"(?>)":        "Atomic 0 3; Done",
		"(?>a)":       "Atomic 0 4; Set a; Done",
		"x(?>ab)y":    "Set x; Atomic 0 6; Set a; Set b; Done; Set y",
		"(?>a|b)":     "Atomic 0 7; Split 3 5; Set a; Jump 6; Set b; Done",
		"(?>(?>a)b)c": "Atomic 0 7; Atomic 0 5; Set a; Done; Set b; Done; Set c",
		"(?>a*)b":     "Atomic 0 8; Split 3 7; Mark 0; Set a; Guard 0; Jump 2; Done; Set b",
	})
}

// P5.1: repeats without an end, of each Mode.
func TestLoopCodes(t *testing.T) {
	checkCodes(t, map[string]string{
		"a*": "Split 2 6; Mark 0; Set a; Guard 0; Jump 1", "a*?": "Split 6 2; Mark 0; Set a; Guard 0; Jump 1", "a*+": "Atomic 0 8; Split 3 7; Mark 0; Set a; Guard 0; Jump 2; Done",
		"a+": "Set a; Split 3 7; Mark 0; Set a; Guard 0; Jump 2", "a+?": "Set a; Split 7 3; Mark 0; Set a; Guard 0; Jump 2", "a++": "Atomic 0 9; Set a; Split 4 8; Mark 0; Set a; Guard 0; Jump 3; Done",
		"a{2,}": "Set a; Set a; Split 4 8; Mark 0; Set a; Guard 0; Jump 3", "a{2,}?": "Set a; Set a; Split 8 4; Mark 0; Set a; Guard 0; Jump 3", "a{2,}+": "Atomic 0 10; Set a; Set a; Split 5 9; Mark 0; Set a; Guard 0; Jump 4; Done",
		"a{0,}":       "Split 2 6; Mark 0; Set a; Guard 0; Jump 1",
		"(?:)*":       "Split 2 5; Mark 0; Guard 0; Jump 1",
		"(?:)+":       "Split 2 5; Mark 0; Guard 0; Jump 1",
		"(?:)*+":      "Atomic 0 7; Split 3 6; Mark 0; Guard 0; Jump 2; Done",
		"(?:^)*":      "Split 2 6; Mark 0; Edge 0; Guard 0; Jump 1",
		"x(?:ab)*?y":  "Set x; Split 8 3; Mark 0; Set a; Set b; Guard 0; Jump 2; Set y",
		"(?:a|b)*":    "Split 2 9; Mark 0; Split 4 6; Set a; Jump 7; Set b; Guard 0; Jump 1",
		"(a)*":        "Split 2 8; Mark 0; Save 2; Set a; Save 3; Guard 0; Jump 1",
		"a*|b":        "Split 2 8; Split 3 7; Mark 0; Set a; Guard 0; Jump 2; Jump 9; Set b",
		"(?:(?=a))*b": "Split 2 8; Mark 0; Look 0 6 0 0; Set a; Done; Guard 0; Jump 1; Set b",
	})
}

// P5.1: loops are numbered in the order of their Marks, those that are written more than once too.
func TestLoopNumbers(t *testing.T) {
	checkCodes(t, map[string]string{
		"a*b*":               "Split 2 6; Mark 0; Set a; Guard 0; Jump 1; Split 7 11; Mark 1; Set b; Guard 1; Jump 6",
		"(?:a*)*":            "Split 2 10; Mark 0; Split 4 8; Mark 1; Set a; Guard 1; Jump 3; Guard 0; Jump 1",
		"(?:a*?)*+":          "Atomic 0 12; Split 3 11; Mark 0; Split 9 5; Mark 1; Set a; Guard 1; Jump 4; Guard 0; Jump 2; Done",
		"(?:a*){2}":          "Split 2 6; Mark 0; Set a; Guard 0; Jump 1; Split 7 11; Mark 1; Set a; Guard 1; Jump 6",
		"(?:a*)+":            "Split 2 6; Mark 0; Set a; Guard 0; Jump 1; Split 7 15; Mark 1; Split 9 13; Mark 2; Set a; Guard 2; Jump 8; Guard 1; Jump 6",
		"(?:a*b*)*":          "Split 2 15; Mark 0; Split 4 8; Mark 1; Set a; Guard 1; Jump 3; Split 9 13; Mark 2; Set b; Guard 2; Jump 8; Guard 0; Jump 1",
		"(?:a*)?b*":          "Split 2 7; Split 3 7; Mark 0; Set a; Guard 0; Jump 2; Split 8 12; Mark 1; Set b; Guard 1; Jump 7",
		"(?:a*){0}b*|(?=c*)": "Split 2 8; Split 3 7; Mark 0; Set b; Guard 0; Jump 2; Jump 15; Look 0 15 0 0; Split 10 14; Mark 1; Set c; Guard 1; Jump 9; Done",
	})
}

// P5.1: repeats with an end, of each Mode.
func TestOptionCodes(t *testing.T) {
	checkCodes(t, map[string]string{
		"a?": "Split 2 3; Set a", "a??": "Split 3 2; Set a", "a?+": "Atomic 0 5; Split 3 4; Set a; Done",
		"a{0}": "", "a{0}?": "", "a{0}+": "Atomic 0 3; Done", "a{0,0}": "", "a{0,0}+": "Atomic 0 3; Done",
		"a{1}": "Set a", "a{1}?": "Set a", "a{1}+": "Atomic 0 4; Set a; Done",
		"a{3}": "Set a; Set a; Set a", "a{3}?": "Set a; Set a; Set a", "a{2,2}+": "Atomic 0 5; Set a; Set a; Done",
		"a{0,2}": "Split 2 5; Set a; Split 4 5; Set a", "a{0,2}?": "Split 5 2; Set a; Split 5 4; Set a", "a{0,2}+": "Atomic 0 7; Split 3 6; Set a; Split 5 6; Set a; Done",
		"a{1,3}": "Set a; Split 3 6; Set a; Split 5 6; Set a", "a{1,3}?": "Set a; Split 6 3; Set a; Split 6 5; Set a", "a{1,3}+": "Atomic 0 8; Set a; Split 4 7; Set a; Split 6 7; Set a; Done",
		"x(?:ab)?y":      "Set x; Split 3 5; Set a; Set b; Set y",
		"x(?:ab){2,3}?y": "Set x; Set a; Set b; Set a; Set b; Split 9 7; Set a; Set b; Set y",
		"(?:a?){2}":      "Split 2 3; Set a; Split 4 5; Set a",
		"(?:a?b){1,2}":   "Split 2 3; Set a; Set b; Split 5 8; Split 6 7; Set a; Set b",
		"(?:a|b)?":       "Split 2 6; Split 3 5; Set a; Jump 6; Set b",
		"(?:a{0,2}?)?":   "Split 2 6; Split 6 3; Set a; Split 6 5; Set a",
		"(?:){3}":        "", "(?:){3}+": "Atomic 0 3; Done", "(?:){1,3}": "Split 2 3; Split 3 3", "(?:){0,2}?": "Split 3 2; Split 3 3",
		"a{2,3}|b*": "Split 2 7; Set a; Set a; Split 5 6; Set a; Jump 12; Split 8 12; Mark 0; Set b; Guard 0; Jump 7",
	})
}

// P5.1: sets are folded, if the pattern is; else they are as they are written.
func TestFolded(t *testing.T) {
	checkCodes(t, map[string]string{
		"k": "Set k", "(?i)k": "Set K k", "(?i)K": "Set K k", "K": "Set K", "(?i)5": "Set 5", "(?i)_": "Set _",
		"(?i)[a-c]": "Set A-C a-c", "[a-c]": "Set a-c", "(?i)[X-b]": "Set A-B X-b x-z", "(?i)[^a]": "Set #0-#1114367", "(?i)[^aA]": "Set #0-@ B-` b-#1114367",
		"(?i)é": "Set #233", "(?i)\\xe9": "Set #233", "(?i)\u212a": "Set #8490", "(?i)\xff": "Set #1114367", `(?i)\w`: "Set 0-9 A-Z _ a-z", `(?i)[^\d\D]`: "Set nothing", `(?i)\x4b`: "Set K k",
		"(?i)a|(?:b)*":          "Split 2 4; Set A a; Jump 9; Split 5 9; Mark 0; Set B b; Guard 0; Jump 4",
		"(?i)(?:(?<=a)){0}b{2}": "Set B b; Set B b",
		"(?i)":                  "", "(?i)^": "Edge 0", "(?i)(?>a)": "Atomic 0 4; Set A a; Done", "(?i)(?<!a)": "Look 3 4 1 1; Set A a; Done",
	})
}

// root1984 is a row of 1984 units.
const root1984 = "(?:a{31}){64}"

// P5.1: as many instructions as the pattern's size, up to MaxProgram; one more is an error.
func TestSizes(t *testing.T) {
	for text, want := range map[string]int{
		"": 3, "a": 4, "a|b": 7, "a*": 8, "a{2,3}|b*": 14, "(?:abc){2,}+": 18, "(?=a)(?<!b)": 9, `(a)\1`: 7, "(?>ab*)": 11, "(?:(?:){0,64}){0,30}": 1953, strings.Repeat("|", 256): 515,
		root1984 + "a{12}": 1999, root1984 + "a{13}": 2000, "(?i)" + root1984 + "a{13}": 2000, root1984 + "a{10}|b": 2000, "(" + root1984 + "a{11})": 2000, root1984 + "a{8}b*": 2000, root1984 + "a{6}b*+": 2000, "(?:a{30}){0,64}a{13}": 2000, "(?:a{30}){0,64}?a{13}": 2000,
	} {
		size := shape.Size(read(t, text).Root) + 3
		if got := len(compiled(t, text)); got != want || got != size {
			t.Errorf("%q: %d, not %d, nor %d", text, got, want, size)
		}
	}
}

// P5.1: a pattern that is too great has no program.
func TestErrSize(t *testing.T) {
	const far = "(?:(?:(?:a{64}){64}){64}){4}"
	for _, text := range []string{
		root1984 + "a{14}", root1984 + "a{15}", "(?i)" + root1984 + "a{14}", root1984 + "a{11}|b", "(" + root1984 + "a{12})", root1984 + "a{9}b*", root1984 + "a{7}b*+", root1984 + "a{13}(?>)", "(?=" + root1984 + "a{12})", "(?:a{30}){0,64}a{14}", "(?:(?:){0,64}){0,64}", "(?:a{64}){32}", "(?:(?:){64,}){64}(?:a*){64,}" + root1984,
		far, far + far, "(?:" + far + ")*", "(?!" + far + ")", around("a", "{64}", 31), around("a", "+", 31), around("a", "{0,64}", 25), around("", "*+", 31) + far,
	} {
		checkError(t, text, api.ErrSize)
	}
}

// P5.1: a pattern that looks too far back has no program, be it too great or not.
func TestErrWidth(t *testing.T) {
	for _, text := range []string{
		"(?<=a{33})", "(?<!a{33})", "(?<=a*)", "(?<!a+)", `(a)(?<=\1)`, "b(?:c(?<=a+))", "(?<=a|b*)", "(?=(?<!a{0,33}))", "(?:(?<=a*)){0}", "x|(?<=a{32}b?)", "(?i)(?<=a*)", "(?<=(?<=a*))",
		"(?<=a*)" + root1984 + "a{14}", root1984 + "a{14}(?<=a*)", "(?<!" + root1984 + "a{14})", "(?<!(?:a{64}){64})",
	} {
		checkError(t, text, api.ErrWidth)
	}
	checkError(t, "(?<=a{32})"+root1984, api.ErrSize)
}

// around is a text within so many parentheses of grouping alone, each with the same behind it.
func around(text, quantifier string, times int) string {
	return strings.Repeat("(?:", times) + text + strings.Repeat(")"+quantifier, times)
}

// checkEnds asks for the codes of patterns that a writer who goes over each repeat would not come to the end of.
func checkEnds(t *testing.T, cases map[string]string) {
	t.Helper()
	done := make(chan struct{})
	go func() {
		defer close(done)
		for text := range cases {
			p, _ := parse.Parse(text)
			prog.Compile(p)
		}
	}()
	select {
	case <-done:
		checkCodes(t, cases)
	case <-time.After(time.Minute):
		t.Fatal("a pattern's program has no end")
	}
}

// P1: repeats of nothing within one another come to an end.
func TestRepeatsOfNothing(t *testing.T) {
	nothing := map[string]string{}
	for times := 1; times <= 25; times++ {
		for _, quantifier := range []string{"{64}", "{64}?", "{0}", "{1}"} {
			nothing[around("", quantifier, times)] = ""
		}
	}
	checkEnds(t, nothing)
	checkEnds(t, map[string]string{
		around("(?:){64}(?:a{0}){64}", "{64}", 25):      "",
		around("(?:a{64}){0}", "{64}", 25):              "",
		around(around("", "{64}", 15), "{1,2}", 1):      "Split 2 2",
		around(around("", "{64}", 15), "{64,}", 1):      "Split 2 5; Mark 0; Guard 0; Jump 1",
		around("a", "{0}", 31):                          "",
		"a" + around("", "{64}", 31) + "b":              "Set a; Set b",
		"(?:a" + around("", "{64}", 30) + "b){2}":       "Set a; Set b; Set a; Set b",
		around(around("", "{64}", 15)+"a", "{2}", 1):    "Set a; Set a",
		"(?>" + around("", "{64}", 30) + ")":            "Atomic 0 3; Done",
		around(around("", "{64}", 29), "{64}+", 1):      "Atomic 0 3; Done",
		"(" + around("", "{64}", 29) + "|)":             "Save 2; Split 3 4; Jump 4; Save 3",
		around("", "{0,1}", 5):                          "Split 2 6; Split 3 6; Split 4 6; Split 5 6; Split 6 6",
		around("(?:a|(?:){64}){2}", "{1}", 25):          "Split 2 4; Set a; Jump 4; Split 5 7; Set a; Jump 7",
		around(around("", "{64}", 14)+"|", "{1,1}?", 1): "Split 2 3; Jump 3",
	})
}

// P5.2: how many Marks a pattern's program has.
func TestLoops(t *testing.T) {
	for text, want := range map[string]int{
		"": 0, "a": 0, "a?": 0, "a{3,5}": 0, "a{0}": 0, "a|b": 0, "(?=a)(?>b)": 0,
		"a*": 1, "a+": 1, "a{5,}": 1, "a*?": 1, "a*+": 1, "(?:)*": 1,
		"a*b*": 2, "(?:a*)*": 2, "(?:a*){3}": 3, "(?:a*){0,3}": 3, "(?:a*){0}": 0, "(?:a+)+": 3, "(?:a*){2,}": 4, "(?=a*)(b*|c*)": 3, "(?:(?:a*){2}b*){5}c*": 16, "(?:a*){64}": 64, "(?:(?:a*){6}){64}": 384,
	} {
		p := compiled(t, text)
		again := slices.Clone(p)
		if got := prog.Loops(p); got != want {
			t.Errorf("%q: %d, not %d", text, got, want)
		}
		if !reflect.DeepEqual(p, again) {
			t.Errorf("%q: %v, not %v", text, p, again)
		}
	}
}

// P5.2: only Marks count, whatever else they bear.
func TestLoopsOfAny(t *testing.T) {
	var all []prog.Inst
	for op := -3; op <= 30; op++ {
		i := prog.Inst{Op: op, A: 10, B: 10, C: 10, D: 10}
		want := 0
		if op == 10 {
			want = 1
		}
		if got := prog.Loops([]prog.Inst{i}); got != want {
			t.Errorf("Op %d: %d, not %d", op, got, want)
		}
		all = append(all, i, i)
	}
	if got := prog.Loops(all); got != 2 {
		t.Error(got)
	}
	// Two Marks of one loop are two.
	if got := prog.Loops([]prog.Inst{{Op: 10, A: 7}, {Op: 11, A: 7}, {Op: 10, A: 7}, {Op: 10, A: -1}}); got != 3 {
		t.Error(got)
	}
	if prog.Loops(nil) != 0 || prog.Loops([]prog.Inst{}) != 0 {
		t.Error("no program, and loops")
	}
}

// spoil changes whatever a node has, spare room too.
func spoil(n *parse.Node) {
	whole := n.Set[:cap(n.Set)]
	for at := range whole {
		whole[at] = class.Range{Lo: 1, Hi: 1}
	}
	for at := range n.Kids {
		spoil(&n.Kids[at])
	}
	*n = parse.Node{Kind: 1}
}

// Rules that hold everywhere: what is handed in is neither changed nor kept, and what is told is new memory.
func TestMemory(t *testing.T) {
	for _, text := range []string{
		`(?i)(a|b*|)(?<=c{2,3}|[x-z])(?>\1+)\b`, `(a|b*|)(?<=c{2,3}|[x-z])(?>\1+)\b`, "[abe]", "(?i)[abe]", `[^\d\D]`, "(?i)5", "(?i)[^a]{3}", "a{3}[x-z.]*",
	} {
		p, again := read(t, text), read(t, text)
		first, _ := prog.Compile(p)
		want := showAll(first)
		second, _ := prog.Compile(p)
		if !reflect.DeepEqual(p, again) {
			t.Fatalf("%q: %+v, not %+v", text, p, again)
		}
		for at := range second {
			spoiled := second[at].Set[:cap(second[at].Set)]
			for i := range spoiled {
				spoiled[i] = class.Range{Lo: 1, Hi: 1}
			}
		}
		whole := second[:cap(second)]
		for at := range whole {
			whole[at] = prog.Inst{Op: -1}
		}
		if !reflect.DeepEqual(p, again) || showAll(first) != want {
			t.Fatalf("%q: %+v and %s, not %+v and %s", text, p, showAll(first), again, want)
		}
		spoil(&p.Root)
		if got := showAll(first); got != want || got != showAll(compiled(t, text)) {
			t.Errorf("%q: %s, not %s", text, got, want)
		}
	}
}
