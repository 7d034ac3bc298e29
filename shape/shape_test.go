package shape_test

import (
	"reflect"
	"strings"
	"testing"

	"colander/api"
	"colander/parse"
	"colander/shape"
)

// read is a pattern that must be right.
func read(t *testing.T, text string) parse.Pattern {
	t.Helper()
	p, f := parse.Parse(text)
	if f != (parse.Fault{}) {
		t.Fatalf("%q: %+v", text, f)
	}
	return p
}

// around is a text within so many parentheses of grouping alone, each with the same behind it.
func around(text, quantifier string, times int) string {
	return strings.Repeat("(?:", times) + text + strings.Repeat(")"+quantifier, times)
}

// Patterns as wide and as great as Far, and one less.
const (
	far    = "(?:(?:(?:a{64}){64}){64}){4}"
	nearly = "(?:(?:(?:a{64}){64}){64}){3}(?:(?:a{64}){64}){63}(?:a{64}){63}a{63}"
)

type widths struct{ lo, hi int }

func checkWidths(t *testing.T, cases map[string]widths) {
	t.Helper()
	for text, want := range cases {
		if lo, hi := shape.Width(read(t, text).Root); lo != want.lo || hi != want.hi {
			t.Errorf("%q: %d and %d, not %+v", text, lo, hi, want)
		}
	}
}

func checkSizes(t *testing.T, cases map[string]int) {
	t.Helper()
	for text, want := range cases {
		if size := shape.Size(read(t, text).Root); size != want {
			t.Errorf("%q: %d, not %d", text, size, want)
		}
	}
}

func checkAnswer(t *testing.T, text string, want api.Errno) {
	t.Helper()
	if e := shape.Check(read(t, text)); e != want {
		t.Errorf("%q: %d, not %d", text, e, want)
	}
}

// P4.1: the constant.
func TestFar(t *testing.T) {
	if shape.Far != 1048576 {
		t.Error(shape.Far)
	}
}

// P4.1: the widths of each kind of node.
func TestWidths(t *testing.T) {
	checkWidths(t, map[string]widths{
		"a{2,3}|b*": {0, -1},

		"": {0, 0}, "(?:)": {0, 0},
		"a": {1, 1}, "\u00e9": {1, 1}, "\U0010ffff": {1, 1}, "\xff": {1, 1}, ".": {1, 1}, "[a-z]": {1, 1}, `[^\d\D]`: {1, 1}, "(?i)k": {1, 1},
		"ab": {2, 2}, "abcde": {5, 5}, "(?:ab)c": {3, 3}, "a(?:)b": {2, 2}, "ab?c": {2, 3}, "a*b": {1, -1}, "ab*": {1, -1}, "a*b*": {0, -1},
		"a|b": {1, 1}, "|": {0, 0}, "a|": {0, 1}, "|a": {0, 1}, "ab|c|def": {1, 3}, "abc|d": {1, 3}, "ab|cde": {2, 3}, "a*|b": {0, -1}, "b|a*": {0, -1}, "abc|b+|cd": {1, -1}, "abc|de+": {2, -1},
		"^": {0, 0}, "$": {0, 0}, `\b`: {0, 0}, `\B`: {0, 0}, "^ab$": {2, 2},
		"(a)": {1, 1}, "()": {0, 0}, "(ab|c)": {1, 2}, "(a*)": {0, -1}, "((a)b)": {2, 2},
		"(?>ab)": {2, 2}, "(?>)": {0, 0}, "(?>a|bc*)": {1, -1},
		"(?=abc)": {0, 0}, "(?!abc)": {0, 0}, "(?<=abc)": {0, 0}, "(?<!abc)": {0, 0}, "(?=a*)": {0, 0}, "(?<!a*)": {0, 0}, "a(?=bc)d": {2, 2},
	})
}

// P4.1: what goes back to a group has no end, whatever the group has.
func TestBackWidths(t *testing.T) {
	checkWidths(t, map[string]widths{
		`(a)\1`: {1, -1}, `()\1`: {0, -1}, `(a)(?>\1)`: {1, -1}, `(\1)`: {0, -1}, `\1|(abc)`: {0, -1}, `(a)(?=\1)`: {1, 1},
		`(a)\1{0}`: {1, 1}, `(a)\1{2}`: {1, -1}, `(a)\1*`: {1, -1}, `(a)\1?`: {1, -1}, `(a)b\1`: {2, -1},
	})
}

// P4.1: the widths of repeats, of each Mode.
func TestRepeatWidths(t *testing.T) {
	for _, mode := range []string{"", "?", "+"} {
		cases := map[string]widths{}
		for text, want := range map[string]widths{
			"a*": {0, -1}, "a+": {1, -1}, "a?": {0, 1}, "a{0}": {0, 0}, "a{1}": {1, 1}, "a{2}": {2, 2}, "a{2,}": {2, -1}, "a{0,}": {0, -1}, "a{2,3}": {2, 3}, "a{0,64}": {0, 64}, "a{64}": {64, 64}, "a{64,}": {64, -1},
			"(?:ab|c){2,3}": {2, 6}, "(?:abc){2}": {6, 6}, "(?:abc){2,}": {6, -1}, "(?:a?b){3,5}": {3, 10},
			"(?:)*": {0, 0}, "()+": {0, 0}, "(?:^)*": {0, 0}, "(?:(?=a*))*": {0, 0}, "(?:a{0})*": {0, 0}, "(?:a{0}|){2,}": {0, 0}, "(?:){3}": {0, 0},
			"(?:a*){0}": {0, 0}, "(?:a+){0}": {0, 0}, "(?:a+){2}": {2, -1}, "(?:a*){0,1}": {0, -1}, "(?:a*)*": {0, -1}, "(?:a+){2,}": {2, -1}, "(?:(?:a*){0})*": {0, 0}, "(?:a*){64}": {0, -1},
		} {
			cases[text+mode] = want
		}
		checkWidths(t, cases)
	}
}

// P4.1: widths at Far, and above it.
func TestFarWidths(t *testing.T) {
	const half = "(?:(?:(?:a{64}){64}){64}){2}"
	checkWidths(t, map[string]widths{
		nearly: {1<<20 - 1, 1<<20 - 1}, nearly + "a": {1 << 20, 1 << 20}, nearly + "aa": {1 << 20, -1}, nearly + "a?": {1<<20 - 1, 1 << 20}, nearly + "a{0,2}": {1<<20 - 1, -1},
		far: {1 << 20, 1 << 20}, far + "a": {1 << 20, -1}, "a" + far: {1 << 20, -1}, far + "^": {1 << 20, 1 << 20}, far + "a?": {1 << 20, -1}, far + "a*": {1 << 20, -1},
		half: {1 << 19, 1 << 19}, half + half: {1 << 20, 1 << 20}, half + half + half: {1 << 20, -1}, "(?:" + half + "){2}": {1 << 20, 1 << 20}, "(?:" + half + "){3}": {1 << 20, -1}, "(?:" + half + "){1,3}": {1 << 19, -1}, "(?:" + half + "){1,2}": {1 << 19, 1 << 20}, "(?:" + half + "){3,}": {1 << 20, -1},
		far + "|a": {1, 1 << 20}, "|" + far: {0, 1 << 20}, far + "|" + far: {1 << 20, 1 << 20}, far + "|" + far + "a": {1 << 20, -1}, far + "|a*": {0, -1},
		"(" + far + ")": {1 << 20, 1 << 20}, "(?>" + far + "a)": {1 << 20, -1}, "(?=" + far + ")": {0, 0}, "(?:" + far + "){0}": {0, 0}, "(?:" + far + "a){0}": {0, 0}, "(?:" + far + ")?": {0, 1 << 20}, "(?:" + far + "a)?": {0, -1}, "(?:" + far + "){1}": {1 << 20, 1 << 20}, "(?:" + far + "){2}": {1 << 20, -1},
	})
}

// P4.1: repeats within repeats, whose widths and sizes no number would hold.
func TestDeep(t *testing.T) {
	for times := 4; times <= 25; times++ {
		checkWidths(t, map[string]widths{around("a", "{64}", times): {1 << 20, -1}, around("a", "{64,}", times): {1 << 20, -1}, around("a", "{0,64}", times): {0, -1}, around("", "{64}", times): {0, 0}, around("", "*", times): {0, 0}})
		checkSizes(t, map[string]int{around("a", "{64}", times): 1 << 20, around("a", "{64,}", times): 1 << 20, around("a", "{0,64}", times): 1 << 20, around("", "{64}", times): 0, around("^", "*", times): 1 + 4*times})
	}
	checkWidths(t, map[string]widths{around("a", "{64}", 3): {1 << 18, 1 << 18}, around("a", "{64}", 31): {1 << 20, -1}, around(around("a", "{64}", 30), "{0}", 1): {0, 0}})
	checkSizes(t, map[string]int{around("a", "{64}", 3): 1 << 18, around("a", "{64}", 31): 1 << 20, around(around("a", "{64}", 30), "{0}", 1): 0, around(around("a", "{64}", 30), "*", 1): 1 << 20})
}

// P4.1: the sizes of each kind of node.
func TestSizes(t *testing.T) {
	checkSizes(t, map[string]int{
		"a{2,3}|b*": 11,

		"": 0, "(?:)": 0,
		"a": 1, "\u00e9": 1, "\xff": 1, ".": 1, "[a-cx-z]": 1, `[^\d\D]`: 1, `\w`: 1, "(?i)k": 1,
		"ab": 2, "abcde": 5, "(?:ab)c": 3, "a(?:)b": 2, "^ab$": 4,
		"^": 1, "$": 1, `\b`: 1, `\B`: 1,
		`(a)\1`: 4, `(\1\1)`: 4,
		"a|b": 4, "|": 2, "a|": 3, "|a": 3, "||": 4, "a|b|c": 7, "ab|c|def": 10, "(?:a|b)|c": 7, "(?:a|b)c": 5,
		"(a)": 3, "()": 2, "((a)b)": 6, "(a|b)": 6,
		"(?=a)": 3, "(?!a)": 3, "(?<=a)": 3, "(?<!a)": 3, "(?=)": 2, "(?<!)": 2, "(?=a|b)": 6, "(?<=ab)": 4, "(?=(?!a))": 5,
		"(?>a)": 3, "(?>)": 2, "(?>ab*)": 8,
	})
}

// P4.1: the sizes of repeats, of each Mode.
func TestRepeatSizes(t *testing.T) {
	for mode, more := range map[string]int{"": 0, "?": 0, "+": 2} {
		cases := map[string]int{}
		for text, want := range map[string]int{
			"a*": 5, "a+": 6, "a?": 2, "a{0}": 0, "a{1}": 1, "a{2}": 2, "a{2,}": 7, "a{0,}": 5, "a{2,3}": 4, "a{2,5}": 8, "a{0,64}": 128, "a{64}": 64, "a{64,}": 69, "a{63,64}": 65,
			"(?:ab|c){2,3}": 16, "(?:abc){2}": 6, "(?:abc){2,}": 13, "(?:abc)*": 7, "(?:abc)?": 4, "(a){2}": 6, "(a)*": 7, "(?>a){1,3}": 11,
			"(?:)*": 4, "(?:)+": 4, "(?:){3}": 0, "(?:){3,5}": 2, "()?": 3, "(?:^)*": 5, "(?:abc){0}": 0,
			"(?:a*)*": 9, "(?:a*){2}": 10, "(?:a+){2,}": 22, "(?:a?b){3,5}": 17, "(?:a*+)*": 11, "(?:a{0,2}?){2,}": 16,
		} {
			cases[text+mode] = want + more
		}
		checkSizes(t, cases)
	}
}

// P4.1: sizes at Far, and above it.
func TestFarSizes(t *testing.T) {
	checkSizes(t, map[string]int{
		nearly: 1<<20 - 1, nearly + "a": 1 << 20, nearly + "aa": 1 << 20, nearly + "|": 1 << 20, "(" + nearly + ")": 1 << 20, "(?>" + nearly + ")": 1 << 20, "(?=" + nearly + ")": 1 << 20, "(?:" + nearly + ")+": 1 << 20, "(?:" + nearly + ")*": 1 << 20, "(?:" + nearly + ")?": 1 << 20, "(?:" + nearly + "){1}+": 1 << 20, "(?:" + nearly + "){0}": 0, "(?:" + nearly + "){0}+": 2,
		far: 1 << 20, far + "a": 1 << 20, "a" + far: 1 << 20, far + "|" + far: 1 << 20, "(" + far + ")": 1 << 20, "(?:" + far + "){64}": 1 << 20, "(?:" + far + "){0,64}": 1 << 20, "(?:" + far + "){0}": 0,
	})
}

// P4.2: looks behind, at MaxWidth and above it.
func TestCheckWidth(t *testing.T) {
	for text, want := range map[string]api.Errno{
		"": api.OK, "a*": api.OK, `(a)\1`: api.OK, "a{33}": api.OK, "(?<=)": api.OK, "(?<!)": api.OK, "(?<=a)b": api.OK, "(?<!a|bc)d": api.OK,
		"(?<=a{31})": api.OK, "(?<=a{32})": api.OK, "(?<=a{33})": api.ErrWidth, "(?<!a{31})": api.OK, "(?<!a{32})": api.OK, "(?<!a{33})": api.ErrWidth,
		"(?<=a{0,32})": api.OK, "(?<=a{0,33})": api.ErrWidth, "(?<=a{0,33}?)": api.ErrWidth, "(?<!(?:ab){16})": api.OK, "(?<!(?:ab){16}c)": api.ErrWidth, "(?<!(?:ab){16}c?)": api.ErrWidth, "(?<=(?:ab){16}^)": api.OK, "(?<=.{32}|a)": api.OK, "(?<=a|.{33})": api.ErrWidth, "(?<=.{33}|a)": api.ErrWidth,
		"(?<=a*)": api.ErrWidth, "(?<!a*)": api.ErrWidth, "(?<=a+)": api.ErrWidth, "(?<=a{2,})": api.ErrWidth, "(?<!a|b*)": api.ErrWidth, `(a)(?<=\1)`: api.ErrWidth, `(a)(?<!\1)`: api.ErrWidth, `(a)(?<=\1{0})`: api.OK, "(?<=(?:a*){0})": api.OK, "(?<=(?:a{33}){0}b)": api.OK, "(?<=(?:)*)": api.OK, "(?<!(?:^)+)": api.OK, "(?<=(a{32}))": api.OK, "(?<=(?>a{32}))": api.OK, "(?<=(a{33}))": api.ErrWidth, "(?<=(?>a{33}))": api.ErrWidth, "(?<=\u00e9{32})": api.OK, "(?<=\xff{33})": api.ErrWidth,
		"(?=a*)": api.OK, "(?!a*)": api.OK, "(?=a{33})": api.OK, "(?!a{33})": api.OK, `(a)(?=\1)`: api.OK,
		"(?<=(?=a*))": api.OK, "(?<=(?!a{33}))": api.OK, "(?<=a{32}(?=b))": api.OK, "(?<!(?<=a{32})b{32})": api.OK, "(?i)(?<=a{32})": api.OK, "(?i)(?<=a{33})": api.ErrWidth,
		"(?<=(?:(?:a{64}){64}){64})": api.ErrWidth, "(?<=(?:(?:(?:a{64}){64}){64}){64})": api.ErrWidth,
	} {
		checkAnswer(t, text, want)
	}
}

// P4.2: looks behind anywhere, also where they are never come to.
func TestCheckAnywhere(t *testing.T) {
	for _, frame := range [][2]string{
		{"", ""}, {"a", ""}, {"", "a"}, {"a", "b"}, {"(?i)", ""}, {"(", ")"}, {"((?>b(?:", ")))"}, {"a|", ""}, {"", "|a"}, {"a|", "|b"}, {"(?>", ")"}, {"(?:", ")*"}, {"(?:", "){0}"}, {"(?:", ")?+"}, {"a(?:b|", "c){0,3}?"},
		{"(?=", ")"}, {"(?!", ")"}, {"(?<=", ")"}, {"(?<!", ")"}, {"(?<=(?=", "))"}, {"(?<=a{32})", ""}, {"", "(?<=a{32})"},
		{strings.Repeat("(?:", 31), strings.Repeat(")", 31)}, {strings.Repeat("(?<=", 31), strings.Repeat(")", 31)}, {strings.Repeat("(?:a|", 31), strings.Repeat(")*", 31)},
	} {
		checkAnswer(t, frame[0]+"(?<=a{33})"+frame[1], api.ErrWidth)
		checkAnswer(t, frame[0]+"(?<!a*)"+frame[1], api.ErrWidth)
		checkAnswer(t, frame[0]+"(?<=a{32})"+frame[1], api.OK)
		checkAnswer(t, frame[0]+"(?<!a{32})"+frame[1], api.OK)
		checkAnswer(t, frame[0]+"(?!a*)"+frame[1], api.OK)
	}
}

// P4.2: sizes at MaxProgram, and above it.
func TestCheckSize(t *testing.T) {
	const root1984 = "(?:a{31}){64}"
	for text, want := range map[string]api.Errno{
		"": api.OK, "abc": api.OK, strings.Repeat("a", 256): api.OK, strings.Repeat("|", 256): api.OK,
		root1984 + "a{12}": api.OK, root1984 + "a{13}": api.OK, root1984 + "a{14}": api.ErrSize, root1984 + "a{15}": api.ErrSize, root1984 + "a{16}": api.ErrSize, root1984 + "a{17}": api.ErrSize,
		"(?i)" + root1984 + "a{13}": api.OK, "(?i)" + root1984 + "a{14}": api.ErrSize,
		root1984 + "a{11}|": api.OK, root1984 + "a{12}|": api.ErrSize, root1984 + "a{10}|b": api.OK, root1984 + "a{11}|b": api.ErrSize,
		"(" + root1984 + "a{11})": api.OK, "(" + root1984 + "a{12})": api.ErrSize, root1984 + "a{8}b*": api.OK, root1984 + "a{9}b*": api.ErrSize, root1984 + "a{6}b*+": api.OK, root1984 + "a{7}b*+": api.ErrSize,
		"(?:a{30}){0,64}": api.OK, "(?:a{31}){0,64}": api.ErrSize, "(?:a{30}){0,64}a{13}": api.OK, "(?:a{30}){0,64}a{14}": api.ErrSize,
		far: api.ErrSize, nearly: api.ErrSize, far + far: api.ErrSize, around("a", "{64}", 31): api.ErrSize, "(?:" + far + "){0}": api.OK, around("a", "{0}", 31): api.OK, "(?=" + far + ")": api.ErrSize, "(?:(?:){0,64}){0,64}": api.ErrSize,
	} {
		checkAnswer(t, text, want)
	}
}

// P4.2: ErrWidth is told ahead of ErrSize, wherever the two are.
func TestFirstAnswer(t *testing.T) {
	for _, text := range []string{"(?<=a*)" + far, far + "(?<=a*)", "(?<!" + far + ")", far + "|(?<!a{33})", "(?:(?<=a+)" + far + ")*", "(?<=(?:a{31}){64}a{14})"} {
		checkAnswer(t, text, api.ErrWidth)
	}
	checkAnswer(t, "(?<=a{32})"+far, api.ErrSize)
	checkAnswer(t, far+"(?<!)", api.ErrSize)
	checkAnswer(t, "(?<=(?:(?:){0,64}){0,64})", api.ErrSize)
}

// Rules that hold everywhere: what is handed in isn't changed, and no answer hangs on an earlier one.
func TestMemory(t *testing.T) {
	const text = `(?i)(a|b*|)(?<=c{2,3}|[x-z])(?>\1+)\b`
	p, again := read(t, text), read(t, text)
	for range 2 {
		lo, hi := shape.Width(p.Root)
		if size, e := shape.Size(p.Root), shape.Check(p); lo != 0 || hi != -1 || size != 30 || e != api.OK {
			t.Error(lo, hi, size, e)
		}
		if !reflect.DeepEqual(p, again) {
			t.Errorf("%+v, not %+v", p, again)
		}
	}
}

// checkSlow holds all answers of a pattern, and of each node within it, against the slow ones; it tells whether the pattern can be read.
func checkSlow(t *testing.T, text string) bool {
	t.Helper()
	p, f := parse.Parse(text)
	if f != (parse.Fault{}) {
		return false
	}
	if e := shape.Check(p); e != slowCheck(p) {
		t.Fatalf("%q: %d, not %d", text, e, slowCheck(p))
	}
	for n := range nodes(p.Root) {
		lo, hi := shape.Width(n)
		if wantLo, wantHi := slowWidth(n); lo != wantLo || hi != wantHi {
			t.Fatalf("%q, %+v: %d and %d, not %d and %d", text, n, lo, hi, wantLo, wantHi)
		}
		size := shape.Size(n)
		if want := slowSize(n); size != want {
			t.Fatalf("%q, %+v: %d, not %d", text, n, size, want)
		}
		if want, ok := written(n); ok && size != want {
			t.Fatalf("%q, %+v: %d, not %d, as it is written", text, n, size, want)
		}
	}
	return true
}

// pieces are what patterns are made of.
var pieces = []string{"a", "(", "(?:", "(?=", "(?<=", "(?<!", "(?>", ")", "|", "*", "+", "?", "{0}", "{1,2}", "{33}", "{64}", "{64,}", `\1`, "^"}

// P4.1 and P4.2: all patterns of up to four pieces.
func TestShortPatterns(t *testing.T) {
	texts, right := []string{""}, 0
	for range 4 {
		var longer []string
		for _, text := range texts {
			for _, piece := range pieces {
				longer = append(longer, text+piece)
			}
		}
		for _, text := range longer {
			if checkSlow(t, text) {
				right++
			}
		}
		texts = longer
	}
	if right < 1000 {
		t.Errorf("only %d can be read", right)
	}
}

// P4.1 and P4.2: long patterns, whose parentheses are all closed.
func TestLongPatterns(t *testing.T) {
	opens := []string{"(?:", "(?:", "(?:", "(", "(?=", "(?!", "(?<=", "(?<!", "(?>"}
	quantifiers := []string{"*", "+", "?", "{0}", "{1}", "{2,}", "{0,3}", "{5}", "{31,33}", "{64}", "{64,}", "*?", "*+", "{2,4}?", "{7}+"}
	x := uint32(7)
	next := func(n int) int {
		x = x*1664525 + 1013904223
		return int(x>>8) % n
	}
	var grow func(deep int) string
	grow = func(deep int) string {
		text := ""
		for range 1 + next(3) {
			switch {
			case deep > 0 && next(3) > 0:
				text += opens[next(len(opens))] + grow(deep-1) + ")"
			default:
				text += []string{"a", "[^b]", ".", `\1`, "(?:$)", "b|", "|", "(?:)"}[next(8)]
			}
			if !strings.HasSuffix(text, "|") && next(2) == 0 {
				text += quantifiers[next(len(quantifiers))]
			}
		}
		return text
	}
	told := map[api.Errno]int{}
	for range 100000 {
		text := grow(5)
		if checkSlow(t, text) {
			told[shape.Check(read(t, text))]++
		}
	}
	if told[api.OK] < 5000 || told[api.ErrWidth] < 1000 || told[api.ErrSize] < 400 {
		t.Errorf("too few of one kind: %v", told)
	}
}
