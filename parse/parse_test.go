package parse_test

import (
	"slices"
	"strconv"
	"strings"
	"testing"

	"colander/api"
	"colander/class"
	"colander/parse"
)

const top = api.MaxUnit

// set is the node of a set of the ranges with these ends.
func set(ends ...int) parse.Node {
	n := parse.Node{Kind: 1}
	for i := 0; i+1 < len(ends); i += 2 {
		n.Set = append(n.Set, class.Range{Lo: ends[i], Hi: ends[i+1]})
	}
	return n
}

// one is the node of a unit.
func one(u int) parse.Node { return set(u, u) }

func cat(kids ...parse.Node) parse.Node { return parse.Node{Kind: 2, Kids: kids} }

func alt(kids ...parse.Node) parse.Node { return parse.Node{Kind: 3, Kids: kids} }

func rep(lo, hi, mode int, kid parse.Node) parse.Node {
	return parse.Node{Kind: 4, Lo: lo, Hi: hi, Mode: mode, Kids: []parse.Node{kid}}
}

func group(ref int, kid parse.Node) parse.Node {
	return parse.Node{Kind: 5, Ref: ref, Kids: []parse.Node{kid}}
}

func back(ref int) parse.Node { return parse.Node{Kind: 6, Ref: ref} }

func look(mode int, kid parse.Node) parse.Node {
	return parse.Node{Kind: 7, Mode: mode, Kids: []parse.Node{kid}}
}

func atomic(kid parse.Node) parse.Node { return parse.Node{Kind: 8, Kids: []parse.Node{kid}} }

func edge(ref int) parse.Node { return parse.Node{Kind: 9, Ref: ref} }

var (
	empty   = parse.Node{}
	a, b, c = one('a'), one('b'), one('c')
	dot     = set(0, 9, 11, top)
	digit   = set('0', '9')
)

// same holds two nodes against each other; nil and empty lists are one.
func same(n, o parse.Node) bool {
	return n.Kind == o.Kind && n.Lo == o.Lo && n.Hi == o.Hi && n.Mode == o.Mode && n.Ref == o.Ref &&
		slices.Equal(n.Set, o.Set) && slices.EqualFunc(n.Kids, o.Kids, same)
}

// checkPattern asks for a pattern that is right, and all that is told of it.
func checkPattern(t *testing.T, text string, want parse.Pattern) {
	t.Helper()
	p, f := parse.Parse(text)
	if f != (parse.Fault{}) || p.Groups != want.Groups || p.Fold != want.Fold || !same(p.Root, want.Root) {
		t.Errorf("%q: %+v %+v, not %+v", text, p, f, want)
	}
}

// checkRoot asks for a pattern without groups.
func checkRoot(t *testing.T, text string, want parse.Node) {
	t.Helper()
	checkPattern(t, text, parse.Pattern{Root: want})
}

// checkFault asks for a fault, and nothing besides.
func checkFault(t *testing.T, text string, code api.Errno, at int) {
	t.Helper()
	p, f := parse.Parse(text)
	if f != (parse.Fault{Code: code, At: at}) || p.Groups != 0 || p.Fold || !same(p.Root, empty) {
		t.Errorf("%q: %+v %+v, not %d at %d", text, p, f, code, at)
	}
}

// P3.1: the kinds' numbers.
func TestKinds(t *testing.T) {
	kinds := []int{parse.Empty, parse.Set, parse.Cat, parse.Alt, parse.Repeat, parse.Group, parse.Back, parse.Look, parse.Atomic, parse.Edge}
	if !slices.Equal(kinds, []int{0, 1, 2, 3, 4, 5, 6, 7, 8, 9}) {
		t.Error(kinds)
	}
}

// P3.1: rows, alternatives and parentheses, within one another.
func TestNodes(t *testing.T) {
	for text, want := range map[string]parse.Pattern{
		"":                      {},
		"a":                     {Root: a},
		"abc":                   {Root: cat(a, b, c)},
		"a|b*?":                 {Root: alt(a, rep(0, -1, 1, b))},
		"|":                     {Root: alt(empty, empty)},
		"||a":                   {Root: alt(empty, empty, a)},
		"a|":                    {Root: alt(a, empty)},
		"ab|c|":                 {Root: alt(cat(a, b), c, empty)},
		"a|b|c|a":               {Root: alt(a, b, c, a)},
		"()":                    {Root: group(1, empty), Groups: 1},
		"(a)":                   {Root: group(1, a), Groups: 1},
		"((a)(b))(c)":           {Root: cat(group(1, cat(group(2, a), group(3, b))), group(4, c)), Groups: 4},
		"(a|b)|c":               {Root: alt(group(1, alt(a, b)), c), Groups: 1},
		"(|a)":                  {Root: group(1, alt(empty, a)), Groups: 1},
		"(?:)":                  {Root: empty},
		"a(?:)b":                {Root: cat(a, empty, b)},
		"(?:a)":                 {Root: a},
		"(?:ab)":                {Root: cat(a, b)},
		"(?:ab)c":               {Root: cat(cat(a, b), c)},
		"a(?:(?:bc))":           {Root: cat(a, cat(b, c))},
		"(?:a|b)":               {Root: alt(a, b)},
		"(?:a|b)|c":             {Root: alt(alt(a, b), c)},
		"(?:a|b)c":              {Root: cat(alt(a, b), c)},
		"(?:(?:a|b)|c)*":        {Root: rep(0, -1, 0, alt(alt(a, b), c))},
		"(?:a*)+":               {Root: rep(1, -1, 0, rep(0, -1, 0, a))},
		"(?:(a))(?:(b))":        {Root: cat(group(1, a), group(2, b)), Groups: 2},
		"(?=a)":                 {Root: look(0, a)},
		"(?!a)":                 {Root: look(1, a)},
		"(?<=a)":                {Root: look(2, a)},
		"(?<!a)":                {Root: look(3, a)},
		"(?>a)":                 {Root: atomic(a)},
		"(?=)(?>)":              {Root: cat(look(0, empty), atomic(empty))},
		"(?=a|(b))c":            {Root: cat(look(0, alt(a, group(1, b))), c), Groups: 1},
		"(?<!ab|)":              {Root: look(3, alt(cat(a, b), empty))},
		"(?>a*|b)c":             {Root: cat(atomic(alt(rep(0, -1, 0, a), b)), c)},
		"(?!(?<=(?>(?:(a)))))":  {Root: look(1, look(2, atomic(group(1, a)))), Groups: 1},
		".":                     {Root: dot},
		"^a$":                   {Root: cat(edge(0), a, edge(1))},
		"a^$b":                  {Root: cat(a, edge(0), edge(1), b)},
		`\b\B`:                  {Root: cat(edge(2), edge(3))},
		`(a)\1`:                 {Root: cat(group(1, a), back(1)), Groups: 1},
		`\2(a)(b)\10`:           {Root: cat(back(2), group(1, a), group(2, b), back(1), one('0')), Groups: 2},
		`(\1)`:                  {Root: group(1, back(1)), Groups: 1},
		"(?i)":                  {Fold: true},
		"(?i)a":                 {Root: a, Fold: true},
		"(?i)A[a-b]|(c)":        {Root: alt(cat(one('A'), set('a', 'b')), group(1, c)), Groups: 1, Fold: true},
		"(?i)(?:a)|":            {Root: alt(a, empty), Fold: true},
		"()()()()()()()()()\\9": {Root: cat(group(1, empty), group(2, empty), group(3, empty), group(4, empty), group(5, empty), group(6, empty), group(7, empty), group(8, empty), group(9, empty), back(9)), Groups: 9},
	} {
		checkPattern(t, text, want)
	}
}

// P3.1: each byte alone, and each with another sign on either side.
func TestUnits(t *testing.T) {
	faults := map[byte]api.Errno{'*': api.ErrRepeat, '+': api.ErrRepeat, '?': api.ErrRepeat, '{': api.ErrRepeat, ']': api.ErrSyntax, '}': api.ErrSyntax, '(': api.ErrSyntax, ')': api.ErrSyntax, '[': api.ErrClass, '\\': api.ErrEscape}
	nodes := map[byte]parse.Node{'.': dot, '^': edge(0), '$': edge(1), '|': alt(empty, empty)}
	for i := range 256 {
		sign, text := byte(i), string([]byte{byte(i)})
		switch want, other := nodes[sign]; {
		case faults[sign] != 0:
			checkFault(t, text, faults[sign], 0)
		case other:
			checkRoot(t, text, want)
		case sign < 0x80:
			checkRoot(t, text, one(i))
			checkRoot(t, "a"+text+"b", cat(a, one(i), b))
		default:
			checkRoot(t, text, one(0x110000+i))
			checkRoot(t, "a"+text+"b", cat(a, one(0x110000+i), b))
		}
	}
}

// P3.1: units of several bytes, and strays among them.
func TestWideUnits(t *testing.T) {
	for text, want := range map[string]parse.Node{
		"\u00e9":               one(0xe9),
		"\u00e9*":              rep(0, -1, 0, one(0xe9)),
		"\ufffd":               one(0xfffd),
		"\U0010ffff\u07ff":     cat(one(0x10ffff), one(0x7ff)),
		"\xc3":                 one(0x1100c3),
		"\xa9\xc3+":            cat(one(0x1100a9), rep(1, -1, 0, one(0x1100c3))),
		"\xc0\x80":             cat(one(0x1100c0), one(0x110080)),
		"\xed\xa0\x80":         cat(one(0x1100ed), one(0x1100a0), one(0x110080)),
		"[\u00e9\xff]":         set(0xe9, 0xe9, 0x1100ff, 0x1100ff),
		"[a-\u00e9]":           set('a', 0xe9),
		"[\x80-\xff]":          set(0x110080, 0x1100ff),
		"[\u20ac-\xff]":        set(0x20ac, top),
		"[^\x00-\U0010ffff]":   set(0x110000, top),
		"[\ud7ff-\ue000\x80]+": rep(1, -1, 0, set(0xd7ff, 0xe000, 0x110080, 0x110080)),
	} {
		checkRoot(t, text, want)
	}
	checkFault(t, "\u00e9**", api.ErrRepeat, 3)
	checkFault(t, "[\u20ac-a]", api.ErrClass, 1)
	checkFault(t, "[\u20ac\xff-\xfe]", api.ErrClass, 4)
	checkFault(t, "\xff(", api.ErrSyntax, 1)
	checkFault(t, "\\\u00e9", api.ErrEscape, 0)
	checkFault(t, "\\\xff", api.ErrEscape, 0)
}

// unitBehind is the unit that a backslash makes with a byte behind, and whether it makes one (of \x apart).
func unitBehind(sign byte) (int, bool) {
	switch {
	case strings.IndexByte("ntr", sign) >= 0:
		return map[byte]int{'n': 10, 't': 9, 'r': 13}[sign], true
	case strings.IndexByte("!\"#$%&'()*+,-./:;<=>?@[\\]^_`{|}~", sign) >= 0:
		return int(sign), true
	}
	return 0, false
}

// P3.1: each byte behind a backslash, outside a class and in one.
func TestEscapes(t *testing.T) {
	nodes := map[byte]parse.Node{
		'd': digit, 'w': set('0', '9', 'A', 'Z', '_', '_', 'a', 'z'), 's': set(9, 13, ' ', ' '),
		'D': set(0, 47, 58, top), 'W': set(0, 47, 58, 64, 91, 94, 96, 96, 123, top), 'S': set(0, 8, 14, 31, 33, top),
	}
	edges := map[byte]parse.Node{'b': edge(2), 'B': edge(3)}
	for i := range 256 {
		sign, text := byte(i), "\\"+string([]byte{byte(i)})
		u, isUnit := unitBehind(sign)
		many, isMany := nodes[sign]
		place, isEdge := edges[sign]
		switch {
		case isUnit:
			checkRoot(t, text, one(u))
			checkRoot(t, "["+text+"]", one(u))
			checkRoot(t, "["+text+"-"+text+"]", one(u))
		case isMany:
			checkRoot(t, text, many)
			checkRoot(t, "["+text+"]", many)
			checkFault(t, "["+text+"-z]", api.ErrClass, 3)
			checkFault(t, "[!-"+text+"]", api.ErrClass, 1)
		case isEdge:
			checkRoot(t, text, place)
		case '1' <= sign && sign <= '9':
			checkFault(t, text, api.ErrRef, 0)
			checkPattern(t, "()()()()()()()()()|"+text, parse.Pattern{Root: alt(nineGroups(), back(i-'0')), Groups: 9})
		default:
			checkFault(t, text, api.ErrEscape, 0)
			checkFault(t, "a"+text+"b", api.ErrEscape, 1)
		}
		if !isUnit && !isMany {
			checkFault(t, "["+text+"]", api.ErrEscape, 1)
			checkFault(t, "[a-"+text+"]", api.ErrEscape, 3)
			checkFault(t, "[^z"+text, api.ErrEscape, 3)
		}
	}
}

func nineGroups() parse.Node {
	var kids []parse.Node
	for i := range 9 {
		kids = append(kids, group(i+1, empty))
	}
	return cat(kids...)
}

// P3.1: each two bytes behind \x.
func TestHex(t *testing.T) {
	for i := range 256 {
		for j := range 256 {
			text := `\x` + string([]byte{byte(i), byte(j)})
			u, err := strconv.ParseInt(text[2:], 16, 0)
			if err != nil || strings.ToLower(text) != text || i == '+' || i == '-' {
				checkFault(t, text, api.ErrEscape, 0)
				checkFault(t, "[!"+text+"]", api.ErrEscape, 2)
				continue
			}
			checkRoot(t, text, one(int(u)))
			checkRoot(t, text+"0", cat(one(int(u)), one('0')))
			checkRoot(t, "["+text+"]", one(int(u)))
		}
	}
	for _, text := range []string{`\`, `\x`, `\x4`, `a\`, `(\`, `[\`, `[a\`, `[a-\`, `\x\x41`, `\x4g`, `\X41`, `\xA0`, `[\x4-a]`, `[a-\x4]`} {
		checkFault(t, text, api.ErrEscape, strings.IndexByte(text, '\\'))
	}
}

// P3.1: all numbers of up to two digits in braces.
func TestBraces(t *testing.T) {
	var counts []string
	for n := range 100 {
		counts = append(counts, strconv.Itoa(n))
		if n < 10 {
			counts = append(counts, "0"+strconv.Itoa(n))
		}
	}
	check := func(text string, lo, hi int, right bool) {
		t.Helper()
		if !right {
			checkFault(t, "a"+text, api.ErrRepeat, 1)
			return
		}
		for mode, sign := range []string{"", "?", "+"} {
			checkRoot(t, "a"+text+sign, rep(lo, hi, mode, a))
		}
	}
	for _, n := range counts {
		lo, _ := strconv.Atoi(n)
		check("{"+n+"}", lo, lo, lo <= 64)
		check("{"+n+",}", lo, -1, lo <= 64)
		for _, m := range counts {
			hi, _ := strconv.Atoi(m)
			check("{"+n+","+m+"}", lo, hi, lo <= hi && hi <= 64)
		}
	}
}

// P3.1: quantifiers behind all kinds of atoms.
func TestQuantifiers(t *testing.T) {
	for text, want := range map[string]parse.Pattern{
		"a*":         {Root: rep(0, -1, 0, a)},
		"a*?":        {Root: rep(0, -1, 1, a)},
		"a*+":        {Root: rep(0, -1, 2, a)},
		"a+":         {Root: rep(1, -1, 0, a)},
		"a+?":        {Root: rep(1, -1, 1, a)},
		"a++":        {Root: rep(1, -1, 2, a)},
		"a?":         {Root: rep(0, 1, 0, a)},
		"a??":        {Root: rep(0, 1, 1, a)},
		"a?+":        {Root: rep(0, 1, 2, a)},
		"a{0}":       {Root: rep(0, 0, 0, a)},
		"a{2,3}|b*":  {Root: alt(rep(2, 3, 0, a), rep(0, -1, 0, b))},
		"ab*c":       {Root: cat(a, rep(0, -1, 0, b), c)},
		".*":         {Root: rep(0, -1, 0, dot)},
		`\d{2}`:      {Root: rep(2, 2, 0, digit)},
		`\*+`:        {Root: rep(1, -1, 0, one('*'))},
		"[ab]?":      {Root: rep(0, 1, 0, set('a', 'b'))},
		"(a)*":       {Root: rep(0, -1, 0, group(1, a)), Groups: 1},
		"()+":        {Root: rep(1, -1, 0, group(1, empty)), Groups: 1},
		"(?:)*":      {Root: rep(0, -1, 0, empty)},
		"(?>a)*":     {Root: rep(0, -1, 0, atomic(a))},
		`(a)\1{3,}`:  {Root: cat(group(1, a), rep(3, -1, 0, back(1))), Groups: 1},
		"(?:^)*":     {Root: rep(0, -1, 0, edge(0))},
		`(?:\b)+`:    {Root: rep(1, -1, 0, edge(2))},
		"(?:(?=a))?": {Root: rep(0, 1, 0, look(0, a))},
		"(^)*($)*":   {Root: cat(rep(0, -1, 0, group(1, edge(0))), rep(0, -1, 0, group(2, edge(1)))), Groups: 2},
		"((?=a))*":   {Root: rep(0, -1, 0, group(1, look(0, a))), Groups: 1},
		"(?>^)*":     {Root: rep(0, -1, 0, atomic(edge(0)))},
		"(?=a*)":     {Root: look(0, rep(0, -1, 0, a))},
		"^a*$":       {Root: cat(edge(0), rep(0, -1, 0, a), edge(1))},
		"(?=a)b*":    {Root: cat(look(0, a), rep(0, -1, 0, b))},
	} {
		checkPattern(t, text, want)
	}
}

// P3.1: ErrRepeat, each at its byte.
func TestRepeatFaults(t *testing.T) {
	for text, at := range map[string]int{
		"*": 0, "+a": 0, "?": 0, "{": 0, "{1}": 0, "{x": 0, "a|*": 2, "a|{2}": 2, "|+": 1, "(*)": 1, "(?:*)": 3, "(?=+)": 3, "(?<!?)": 4, "(?>{2})": 3, "(a|?)": 3, "(?i)*": 4, "(?i){1}": 4,
		"a**": 2, "a*??": 3, "a*?+": 3, "a+++": 3, "a?+?": 3, "a{2}{3}": 4, "a{2}?{3}": 5, "a{2}+*": 5, "a{2}*": 4, "ab(c)*{1}": 6, "a*{": 2,
		"a{": 1, "a{}": 1, "a{2": 1, "a{2,": 1, "a{2,3": 1, "a{,}": 1, "a{,2}": 1, "a{x}": 1, "a{2x}": 1, "a{2,x}": 1, "a{2,3x}": 1, "a{2,3,}": 1, "a{2,,3}": 1, "a{ 2}": 1, "a{2 }": 1, "a{2, 3}": 1, "a{-1}": 1, "a{+1}": 1,
		"a{100}": 1, "a{002}": 1, "a{1,100}": 1, "a{1,002}": 1, "a{100,}": 1, "a{3,2}": 1, "a{65}": 1, "a{65,}": 1, "a{0,65}": 1, "a{64,65}": 1, "a{99,99}": 1, "a{2]": 1, "a{2)": 1, "ab{{2}": 2, "a{1{2}}": 1, "a{\xd9\xa1}": 1,
		"^*": 1, "$+": 1, "^?": 1, "^{2}": 1, "^{x": 1, `\b*`: 2, `\B?`: 2, `\b{1}`: 2, "(?=a)*": 5, "(?!a)+": 5, "(?<=a)?": 6, "(?<!a){2}": 6, "(?<!a){": 6, "a^*": 2, "(^*)": 2, "(?:(?=a)*)": 8, "(?:(?:^)*)*^+": 12,
	} {
		checkFault(t, text, api.ErrRepeat, at)
	}
}

// P3.1: classes.
func TestClasses(t *testing.T) {
	for text, want := range map[string]parse.Node{
		"[a]":               a,
		"[ab]":              set('a', 'b'),
		"[ba]":              set('a', 'b'),
		"[ac]":              set('a', 'a', 'c', 'c'),
		"[aa]":              a,
		"[^a]":              set(0, 'a'-1, 'b', top),
		"[^^]":              set(0, '^'-1, '_', top),
		"[a^]":              set('^', '^', 'a', 'a'),
		"[a-c]":             set('a', 'c'),
		"[a-a]":             a,
		"[^a-c]":            set(0, 'a'-1, 'd', top),
		"[a-cb-e]":          set('a', 'e'),
		"[a-bc-d]":          set('a', 'd'),
		"[x-za-c]":          set('a', 'c', 'x', 'z'),
		"[!-^]":             set('!', '^'),
		"[ -~]":             set(' ', '~'),
		"[(|)*+?{}.$]":      set('$', '$', '(', '+', '.', '.', '?', '?', '{', '}'),
		"[*-+]":             set('*', '+'),
		`[\]\[\-\\\^]`:      set('-', '-', '[', '^'),
		`[\--\]]`:           set('-', ']'),
		`[a-\x7a]`:          set('a', 'z'),
		`[\x00-\xff]`:       set(0, 255),
		`[\t-\r]`:           set(9, 13),
		`[^\n]`:             dot,
		`[\d]`:              digit,
		`[^\D]`:             digit,
		`[\d\D]`:            set(0, top),
		`[^\d\D]`:           set(),
		`[^\x00-\x08\s\S]+`: rep(1, -1, 0, set()),
		`[\da-f]`:           set('0', '9', 'a', 'f'),
		`[a-f\d]`:           set('0', '9', 'a', 'f'),
		`[^\w\s]`:           set(0, 8, 14, 31, 33, 47, 58, 64, 91, 94, 96, 96, 123, top),
		`[\W\d]`:            set(0, 64, 91, 94, 96, 96, 123, top),
		"[a][b]":            cat(a, b),
		"[a]b|[^\n]":        alt(cat(a, b), dot),
		"[A-Z]":             set('A', 'Z'),
		"[\x00]":            one(0),
		"[,:=<>!&]":         set('!', '!', '&', '&', ',', ',', ':', ':', '<', '>'),
	} {
		checkRoot(t, text, want)
	}
	checkPattern(t, "(?i)[^a-c]", parse.Pattern{Root: set(0, 'a'-1, 'd', top), Fold: true})
}

// P3.1: each byte as a member, and as the parts of a range.
func TestMembers(t *testing.T) {
	for i := range 256 {
		text, u := string([]byte{byte(i)}), i
		if i >= 0x80 {
			u = 0x110000 + i
		}
		switch i {
		case '[', '-':
			checkFault(t, "["+text+"]", api.ErrClass, 1)
			checkFault(t, "[a"+text, api.ErrClass, map[int]int{'[': 2, '-': 1}[i])
			checkFault(t, "[!-"+text+"]", api.ErrClass, 1)
		case ']':
			checkFault(t, "[]]", api.ErrClass, 0)
			checkFault(t, "[!-]]", api.ErrClass, 1)
		case '\\':
			checkRoot(t, `[\]]`, one(']'))
		case '^':
			checkRoot(t, "[!^]", set('!', '!', '^', '^'))
			checkRoot(t, "[!-^]", set('!', '^'))
		default:
			checkRoot(t, "["+text+"]", one(u))
			checkRoot(t, "[^"+text+"-"+text+"]*", rep(0, -1, 0, without(u)))
			checkRoot(t, "[\x00-"+text+"]", set(0, u))
			checkRoot(t, "["+text+"-\xff]", set(u, top))
		}
	}
}

// without is all units but one.
func without(u int) parse.Node {
	switch u {
	case 0:
		return set(1, top)
	case top:
		return set(0, top-1)
	}
	return set(0, u-1, u+1, top)
}

// P3.1: ErrClass, each at its byte.
func TestClassFaults(t *testing.T) {
	for text, at := range map[string]int{
		"[]": 0, "[^]": 0, "a[]b": 1, "[]a]": 0, "[^]a]": 0, "[": 0, "[^": 0, "[a": 0, "[^a": 0, "[a-b": 0, `[\d`: 0, "a(b)[c": 4, "[a(": 0, "[a]|[b": 4,
		"[[": 1, "[[]": 1, "[a[]": 2, "[^[a]": 2, "[-": 1, "[-]": 1, "[-a]": 1, "[^-a]": 2, "[--a]": 1, "[a-b-c]": 4, "[a-b-]": 4, `[\n\t[`: 5,
		"[a-": 1, "[a-]": 1, "[^a-]": 2, "[ab-]": 2, "[a-[": 1, "[a-[]": 1, "[a--]": 1, "[a--z]": 1, "[b-a]": 1, "[xb-a]": 2, "[a-ba-Z]": 4, `[a-\d]`: 1, `[xa-\W`: 2, `[\x62-a]`: 1, `[b-\x61]`: 1, `[\]-\[]`: 1, `[\n-\t]`: 1, `[a-b\t-]`: 4, `[\x41-`: 1,
		`[\d-]`: 3, `[\d-z]`: 3, `[\d-`: 3, `[a\w-z]`: 4, `[\S--]`: 3, `[^\D-a]`: 4, `[\d\d-]`: 5,
	} {
		checkFault(t, text, api.ErrClass, at)
	}
}

// P3.1: ErrSyntax, each at its byte.
func TestSyntaxFaults(t *testing.T) {
	for text, at := range map[string]int{
		"]": 0, "}": 0, "a]": 1, "a}": 1, "[a]]": 3, "a{2}}": 4, "a|]": 2, "(])": 1, "(?:}": 3, "a*]": 2, "a,2}": 3, "^]": 1,
		"(": 0, "(a": 0, "a(b": 1, "((": 1, "(()": 0, "(()(": 3, "(a|b": 0, "(?:a": 0, "(?=": 0, "(?!a": 0, "(?<=a": 0, "(?<!": 0, "(?>a(b)": 0, "a(?:b(?=c": 5, "(?i)(": 4, `(\)`: 0, "([)]": 0,
		")": 0, "a)": 1, "(a))": 3, "a|)": 2, "())(": 2, "(?:))": 4, "(?i))": 4,
		"(?": 0, "(?<": 0, "a(?": 1, "(?i": 0, "(?i:a)": 0, "(?I)": 0, "a(?i)": 1, "(?i)(?i)": 4, "(?:(?i)a)": 3, "((?i)a)": 1, "(?<a)": 0, "(?<>a)": 0, "(? :a)": 0, "(??": 0, "(?*": 0, "((?": 1, "(?x))": 0, "(?P<a>b)": 0, "(?#a)": 0,
	} {
		checkFault(t, text, api.ErrSyntax, at)
	}
	for i := range 256 {
		sign := string([]byte{byte(i)})
		if !strings.Contains(":=!><", sign) {
			checkFault(t, "a(?"+sign+"a)", api.ErrSyntax, 1)
		}
		if sign != "=" && sign != "!" {
			checkFault(t, "a(?<"+sign+"a)", api.ErrSyntax, 1)
		}
	}
}

// P3.1: parentheses of each kind, 32 within one another and more.
func TestDepth(t *testing.T) {
	const deep = 32
	kinds := []string{"(?:", "(?=", "(?!", "(?<=", "(?<!", "(?>"}
	for _, kind := range kinds {
		texts := strings.Repeat(kind, deep)
		closing := strings.Repeat(")", deep)
		if _, f := parse.Parse(texts + "a" + closing); f != (parse.Fault{}) {
			t.Errorf("32 %s: %+v", kind, f)
		}
		for _, inner := range append(kinds, "(", "(?", "(?x", "(?i)", "(*") {
			checkFault(t, texts+inner, api.ErrDeep, len(texts))
			checkFault(t, texts+"a|"+inner+")", api.ErrDeep, len(texts)+2)
		}
		checkFault(t, texts+"[(", api.ErrClass, len(texts))
		checkFault(t, texts+`\(`, api.ErrSyntax, len(texts)-len(kind))
		again := strings.Repeat("(?:", deep-1) + kind + ")" + kind + ")"
		checkFault(t, again+kind+"(", api.ErrDeep, len(again)+len(kind))
		checkFault(t, "(?i)"+texts+"(", api.ErrDeep, 4+len(texts))
	}
	wide := strings.Repeat("(?:a)", 51)
	if p, f := parse.Parse(wide); f != (parse.Fault{}) || len(p.Root.Kids) != 51 {
		t.Errorf("51 side by side: %+v", f)
	}
}

// P3.1: nine groups, and more.
func TestGroups(t *testing.T) {
	nine := strings.Repeat("(a)", 9)
	for _, text := range []string{nine, "((((((((()))))))))", nine + "(?:a)(?=b)(?!c)(?<=d)(?<!e)(?>f)", nine + `\(` + "[(]"} {
		if p, f := parse.Parse(text); f != (parse.Fault{}) || p.Groups != 9 {
			t.Errorf("%q: %d groups, %+v", text, p.Groups, f)
		}
	}
	for text, at := range map[string]int{
		nine + "(": 27, nine + "(a)": 27, nine + "|(*": 28, "((((((((((": 9, nine + "(?:(b))": 30, nine + "((": 27, nine + `\(()`: 29, strings.Repeat("(", 33): 9,
	} {
		checkFault(t, text, api.ErrGroup, at)
	}
	checkFault(t, nine+strings.Repeat("(?:", 32)+"(", api.ErrDeep, 27+96)
	checkFault(t, nine+strings.Repeat("(?:", 31)+"(", api.ErrGroup, 27+93)
	checkFault(t, nine+"(?", api.ErrSyntax, 27)
}

// P3.1: ErrRef, behind all others.
func TestBacks(t *testing.T) {
	for text, at := range map[string]int{
		`\1`: 0, `a\1`: 1, `(a)\2`: 3, `\3(a)\2(b)`: 0, `\1(a)\2\3`: 5, `(?:a)\1`: 5, `(?=a)\1`: 5, `\9()()()()()()()()`: 0, `(?i)\1`: 4, `\2\1`: 0, `[(]\1`: 3, `\(\1`: 2, `\10`: 0, `\1*`: 0, `(?=\2)()`: 3,
	} {
		checkFault(t, text, api.ErrRef, at)
	}
	checkFault(t, `\1*)`, api.ErrSyntax, 3)
	checkFault(t, `\1(`, api.ErrSyntax, 2)
	checkFault(t, `\1\`, api.ErrEscape, 2)
	checkFault(t, `\1[`, api.ErrClass, 2)
	checkFault(t, `\1**`, api.ErrRepeat, 3)
	checkFault(t, `\9`+strings.Repeat("()", 10), api.ErrGroup, 20)
	checkFault(t, `\9`+strings.Repeat("(?:", 33), api.ErrDeep, 98)
}

// P3.1: the greatest patterns, and greater ones.
func TestBig(t *testing.T) {
	long := strings.Repeat("a", 256)
	if p, f := parse.Parse(long); f != (parse.Fault{}) || len(p.Root.Kids) != 256 {
		t.Errorf("256 bytes: %d kids, %+v", len(p.Root.Kids), f)
	}
	checkFault(t, long[:255]+"(", api.ErrSyntax, 255)
	for _, text := range []string{long + "a", "(" + long, "*" + long, long + `\1`, strings.Repeat("(", 257), strings.Repeat("\xff", 300), strings.Repeat("\u00e9", 129), strings.Repeat("[", 1<<20)} {
		checkFault(t, text, api.ErrBig, 0)
	}
	if p, f := parse.Parse(strings.Repeat("\u00e9", 128)); f != (parse.Fault{}) || len(p.Root.Kids) != 128 {
		t.Errorf("128 units: %d kids, %+v", len(p.Root.Kids), f)
	}
	pipes := strings.Repeat("|", 256)
	if p, f := parse.Parse(pipes); f != (parse.Fault{}) || len(p.Root.Kids) != 257 {
		t.Errorf("256 |: %d kids, %+v", len(p.Root.Kids), f)
	}
}

// P3.1: of two faults the first one that is read.
func TestFirstFault(t *testing.T) {
	for text, want := range map[string]parse.Fault{
		"**":        {Code: api.ErrRepeat, At: 0},
		"a**)":      {Code: api.ErrRepeat, At: 2},
		")*":        {Code: api.ErrSyntax, At: 0},
		"(*":        {Code: api.ErrRepeat, At: 1},
		"(]":        {Code: api.ErrSyntax, At: 1},
		`(\q`:       {Code: api.ErrEscape, At: 1},
		"([a":       {Code: api.ErrClass, At: 1},
		"(a{2":      {Code: api.ErrRepeat, At: 2},
		"(a[b-a]":   {Code: api.ErrClass, At: 3},
		"(?x*":      {Code: api.ErrSyntax, At: 0},
		`[\q`:       {Code: api.ErrEscape, At: 1},
		`[\b-a]`:    {Code: api.ErrEscape, At: 1},
		`[a-\b]`:    {Code: api.ErrEscape, At: 3},
		`[a-\1`:     {Code: api.ErrEscape, At: 3},
		`[z-\x6]`:   {Code: api.ErrEscape, At: 3},
		`[b-a\q]`:   {Code: api.ErrClass, At: 1},
		`[b-a`:      {Code: api.ErrClass, At: 1},
		`[\q-a]`:    {Code: api.ErrEscape, At: 1},
		`[]\q`:      {Code: api.ErrClass, At: 0},
		"[a][":      {Code: api.ErrClass, At: 3},
		"a{2}{)":    {Code: api.ErrRepeat, At: 4},
		`a)\`:       {Code: api.ErrSyntax, At: 1},
		`\q)`:       {Code: api.ErrEscape, At: 0},
		"^*(":       {Code: api.ErrRepeat, At: 1},
		"(((a)":     {Code: api.ErrSyntax, At: 1},
		"((a)(b":    {Code: api.ErrSyntax, At: 4},
		"(a)b)c(":   {Code: api.ErrSyntax, At: 4},
		"(?=a)*\\q": {Code: api.ErrRepeat, At: 5},
	} {
		checkFault(t, text, want.Code, want.At)
	}
}

// pieces are what patterns are made of.
var pieces = []string{"a", "(", "(?:", "(?=", "(?<!", "(?>", ")", "|", "*", "+", "?", "{1,2}", "{", "}", "[", "[^", "]", "^", "-", `\`, `\d`, `\b`, `\1`, "1", ",", "\u00e9", "\xff", "(?i)", "x41", "b", "$", ".", ":", "<", "="}

// checkSlow holds an answer against the one of the slow reader.
func checkSlow(t *testing.T, text string) bool {
	t.Helper()
	p, f := parse.Parse(text)
	wantPattern, want := slowParse(text)
	if f != want || p.Groups != wantPattern.Groups || p.Fold != wantPattern.Fold || !same(p.Root, wantPattern.Root) {
		t.Fatalf("%q: %+v %+v, not %+v %+v", text, p, f, wantPattern, want)
	}
	return f.Code == api.OK
}

// P3.1: all patterns of up to three pieces.
func TestShortPatterns(t *testing.T) {
	texts := []string{""}
	for range 3 {
		var longer []string
		for _, text := range texts {
			for _, piece := range pieces {
				longer = append(longer, text+piece)
			}
		}
		for _, text := range longer {
			checkSlow(t, text)
		}
		texts = longer
	}
}

// P3.1: long patterns, of wholes among which many are right, and of pieces too.
func TestLongPatterns(t *testing.T) {
	wholes := []string{"a", "ab", "(a)", "(a|b)*", "(?:a", ")", "(", ")?", "[a-z]", `[^\d]`, "[a", "b-c]", `\x41`, `\1`, "a{2}", "a+?", "b{1,}+", "^", "$", "|", "(?=a)", "(?<!b)", "."}
	all := slices.Concat(wholes, pieces)
	x := uint32(11)
	next := func(n int) int {
		x = x*1664525 + 1013904223
		return int(x>>8) % n
	}
	right := 0
	for range 200000 {
		var text strings.Builder
		from := wholes
		if next(3) == 0 {
			from = all
		}
		for range 1 + next(12) {
			text.WriteString(from[next(len(from))])
		}
		if checkSlow(t, text.String()) {
			right++
		}
	}
	if right < 5000 {
		t.Errorf("only %d are right", right)
	}
}

// P1: any bytes at all.
func TestAnyBytes(t *testing.T) {
	for i := range 256 {
		for j := range 256 {
			checkSlow(t, string([]byte{byte(i), byte(j)}))
			checkSlow(t, string([]byte{'[', byte(i), byte(j), ']'}))
			checkSlow(t, string([]byte{'a', '{', byte(i), byte(j), '}'}))
		}
	}
}

// lists are all lists of a node and those within it.
func lists(n parse.Node) (sets []class.Set, kids [][]parse.Node) {
	sets, kids = append(sets, n.Set), append(kids, n.Kids)
	for _, kid := range n.Kids {
		s, k := lists(kid)
		sets, kids = append(sets, s...), append(kids, k...)
	}
	return sets, kids
}

// Rules that hold everywhere: no two lists of one answer, nor of two answers, share memory or spare room.
func TestMemory(t *testing.T) {
	const text = `(?i)\d\d\D\D\w\w\W\s\S..aa[a][a][\d][\d][^\D][^\D](a|b|c)(?:ab|bc|)*(?=a)(?>b)\1(?:a|b|c)`
	one, f := parse.Parse(text)
	two, g := parse.Parse(text)
	if f.Code != api.OK || g.Code != api.OK {
		t.Fatal(f, g)
	}
	sets, kids := lists(one.Root)
	for i, s := range sets {
		for j := range s[:cap(s)] {
			s[:cap(s)][j] = class.Range{Lo: i, Hi: i}
		}
	}
	for i, s := range sets {
		for _, r := range s[:cap(s)] {
			if r != (class.Range{Lo: i, Hi: i}) {
				t.Fatalf("the set %d shares memory", i)
			}
		}
	}
	for i, k := range kids {
		for j := range k[:cap(k)] {
			k[:cap(k)][j] = parse.Node{Kind: 100 + i}
		}
	}
	for i, k := range kids {
		for _, n := range k[:cap(k)] {
			if n.Kind != 100+i {
				t.Fatalf("the kids %d share memory", i)
			}
		}
	}
	want, _ := slowParse(text)
	if !same(two.Root, want.Root) {
		t.Error("two answers share memory")
	}
	three, _ := parse.Parse(text)
	if !same(three.Root, want.Root) {
		t.Error("a later answer hangs on an earlier one")
	}
}
