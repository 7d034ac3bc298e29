package parse_test

import (
	"regexp"
	"strconv"
	"unicode/utf8"

	"colander/api"
	"colander/class"
	"colander/parse"
)

// The document's words as regular expressions, to be held against a pattern's rest.
const (
	unitWords = `([^\[\]\-\\]|\\[ntr]|\\x[0-9a-f]{2}|\\[!-/:-@\[-` + "`" + `{-~])`
	manyWords = `(\\[dwsDWS])`
)

var (
	quantifierWords = regexp.MustCompile(`^(?:([*+?])|\{(\d{1,2})(?:(,)(\d{1,2})?)?\})([?+]?)`)
	openWords       = regexp.MustCompile(`^\((\?(?::|=|!|<=|<!|>))?`)
	rangeWords      = regexp.MustCompile(`(?s)^` + unitWords + `-` + unitWords)
	halfWords       = regexp.MustCompile(`(?s)^` + unitWords + `-`)
	memberWords     = regexp.MustCompile(`(?s)^` + unitWords)
	severalWords    = regexp.MustCompile(`^` + manyWords)
	backWords       = regexp.MustCompile(`^\\[1-9]`)
)

// open is a parenthesis that isn't closed yet, or the whole pattern.
type open struct {
	at   int
	sign string
	ref  int
	rows [][]parse.Node
}

// slow reads patterns by a stack of its own and regular expressions, unlike the package.
type slow struct {
	text   string
	at     int
	stack  []open
	groups int
	backs  []parse.Fault
	// fits tells whether a quantifier may stand next.
	fits  bool
	fault parse.Fault
}

// slowParse is what Parse is due to answer.
func slowParse(text string) (parse.Pattern, parse.Fault) {
	if len(text) > 256 {
		return parse.Pattern{}, parse.Fault{Code: api.ErrBig}
	}
	s := &slow{text: text, stack: []open{{rows: [][]parse.Node{nil}}}}
	fold := len(text) >= 4 && text[:4] == "(?i)"
	if fold {
		s.at = 4
	}
	for s.at < len(text) {
		if code, at := s.step(); code != api.OK {
			return parse.Pattern{}, parse.Fault{Code: code, At: at}
		}
	}
	if n := len(s.stack); n > 1 {
		return parse.Pattern{}, parse.Fault{Code: api.ErrSyntax, At: s.stack[n-1].at}
	}
	for _, b := range s.backs {
		if int(b.Code) > s.groups {
			return parse.Pattern{}, parse.Fault{Code: api.ErrRef, At: b.At}
		}
	}
	return parse.Pattern{Root: joined(s.stack[0].rows), Groups: s.groups, Fold: fold}, parse.Fault{}
}

// joined is the node of rows of atoms.
func joined(rows [][]parse.Node) parse.Node {
	var kids []parse.Node
	for _, row := range rows {
		switch len(row) {
		case 0:
			kids = append(kids, parse.Node{})
		case 1:
			kids = append(kids, row[0])
		default:
			kids = append(kids, parse.Node{Kind: 2, Kids: row})
		}
	}
	if len(kids) == 1 {
		return kids[0]
	}
	return parse.Node{Kind: 3, Kids: kids}
}

// push lays an atom into the last row of the innermost parenthesis.
func (s *slow) push(n parse.Node, fits bool) {
	o := &s.stack[len(s.stack)-1]
	o.rows[len(o.rows)-1] = append(o.rows[len(o.rows)-1], n)
	s.fits = fits
}

// step goes over one sign, escape, class, parenthesis or quantifier.
func (s *slow) step() (api.Errno, int) {
	at, rest := s.at, s.text[s.at:]
	switch rest[0] {
	case '*', '+', '?', '{':
		return s.quantifier(quantifierWords.FindStringSubmatch(rest))
	case '(':
		return s.parenthesis(openWords.FindStringSubmatch(rest))
	case ')':
		return s.closing()
	case '|':
		o := &s.stack[len(s.stack)-1]
		o.rows = append(o.rows, nil)
		s.fits = false
		s.at++
		return api.OK, 0
	case '[':
		return s.class()
	case '\\':
		return s.escape(rest)
	case ']', '}':
		return api.ErrSyntax, at
	case '^', '$':
		s.at++
		s.push(parse.Node{Kind: 9, Ref: map[byte]int{'^': 0, '$': 1}[rest[0]]}, false)
	case '.':
		s.at++
		s.push(set(0, 9, 11, api.MaxUnit), true)
	default:
		u, size := number(rest)
		s.at += size
		s.push(set(u, u), true)
	}
	return api.OK, 0
}

// number is the unit of a text's beginning that is no escape.
func number(rest string) (int, int) {
	r, size := utf8.DecodeRuneInString(rest)
	if r == utf8.RuneError && size == 1 {
		return 0x110000 + int(rest[0]), 1
	}
	return int(r), size
}

// meant is the unit that a part of a class stands for.
func meant(part string) int {
	if part[0] != '\\' {
		u, _ := number(part)
		return u
	}
	if len(part) == 4 {
		u, _ := strconv.ParseInt(part[2:], 16, 0)
		return int(u)
	}
	switch part[1] {
	case 'n':
		return 10
	case 't':
		return 9
	case 'r':
		return 13
	}
	return int(part[1])
}

func (s *slow) quantifier(m []string) (api.Errno, int) {
	if !s.fits || m == nil {
		return api.ErrRepeat, s.at
	}
	n := parse.Node{Kind: 4, Hi: -1, Mode: map[string]int{"": 0, "?": 1, "+": 2}[m[5]]}
	if m[1] == "" {
		n.Lo, _ = strconv.Atoi(m[2])
		n.Hi, _ = strconv.Atoi(m[4])
		if m[4] == "" {
			n.Hi = map[string]int{"": n.Lo, ",": -1}[m[3]]
		}
		if n.Lo > 64 || n.Hi > 64 || n.Hi >= 0 && n.Lo > n.Hi {
			return api.ErrRepeat, s.at
		}
	}
	switch m[1] {
	case "+":
		n.Lo = 1
	case "?":
		n.Hi = 1
	}
	o := s.stack[len(s.stack)-1]
	row := o.rows[len(o.rows)-1]
	n.Kids = []parse.Node{row[len(row)-1]}
	row[len(row)-1] = n
	s.fits = false
	s.at += len(m[0])
	return api.OK, 0
}

func (s *slow) parenthesis(m []string) (api.Errno, int) {
	o := open{at: s.at, sign: m[1], rows: [][]parse.Node{nil}}
	if len(s.stack) > 32 {
		return api.ErrDeep, s.at
	}
	if m[1] == "" {
		if len(s.text) > s.at+1 && s.text[s.at+1] == '?' {
			return api.ErrSyntax, s.at
		}
		s.groups++
		o.ref = s.groups
		if s.groups > 9 {
			return api.ErrGroup, s.at
		}
	}
	s.stack = append(s.stack, o)
	s.fits = false
	s.at += len(m[0])
	return api.OK, 0
}

func (s *slow) closing() (api.Errno, int) {
	last := len(s.stack) - 1
	if last == 0 {
		return api.ErrSyntax, s.at
	}
	o := s.stack[last]
	s.stack = s.stack[:last]
	s.at++
	n := joined(o.rows)
	switch o.sign {
	case ":", "?:":
		s.push(n, true)
	case "":
		s.push(parse.Node{Kind: 5, Ref: o.ref, Kids: []parse.Node{n}}, true)
	case "?>":
		s.push(parse.Node{Kind: 8, Kids: []parse.Node{n}}, true)
	default:
		s.push(parse.Node{Kind: 7, Mode: map[string]int{"?=": 0, "?!": 1, "?<=": 2, "?<!": 3}[o.sign], Kids: []parse.Node{n}}, false)
	}
	return api.OK, 0
}

func (s *slow) escape(rest string) (api.Errno, int) {
	if len(rest) > 1 && (rest[1] == 'b' || rest[1] == 'B') {
		s.at += 2
		s.push(parse.Node{Kind: 9, Ref: map[byte]int{'b': 2, 'B': 3}[rest[1]]}, false)
		return api.OK, 0
	}
	if backWords.MatchString(rest) {
		s.backs = append(s.backs, parse.Fault{Code: api.Errno(rest[1] - '0'), At: s.at})
		s.at += 2
		s.push(parse.Node{Kind: 6, Ref: int(rest[1] - '0')}, true)
		return api.OK, 0
	}
	if severalWords.MatchString(rest) {
		s.at += 2
		s.push(parse.Node{Kind: 1, Set: several(rest[1])}, true)
		return api.OK, 0
	}
	m := memberWords.FindString(rest)
	if m == "" {
		return api.ErrEscape, s.at
	}
	s.at += len(m)
	s.push(set(meant(m), meant(m)), true)
	return api.OK, 0
}

// several is what an escape with this sign stands for.
func several(sign byte) class.Set {
	const top = api.MaxUnit
	switch sign {
	case 'd':
		return set(48, 57).Set
	case 'D':
		return set(0, 47, 58, top).Set
	case 'w':
		return set(48, 57, 65, 90, 95, 95, 97, 122).Set
	case 'W':
		return set(0, 47, 58, 64, 91, 94, 96, 96, 123, top).Set
	case 's':
		return set(9, 13, 32, 32).Set
	}
	return set(0, 8, 14, 31, 33, top).Set
}

func (s *slow) class() (api.Errno, int) {
	begin := s.at
	s.at++
	not := s.at < len(s.text) && s.text[s.at] == '^'
	if not {
		s.at++
	}
	var ranges []class.Range
	for {
		rest := s.text[s.at:]
		if rest == "" || rest[0] == ']' && len(ranges) == 0 {
			return api.ErrClass, begin
		}
		if rest[0] == ']' {
			break
		}
		code, at := s.member(rest, &ranges)
		if code != api.OK {
			return code, at
		}
	}
	s.at++
	made, _ := class.Make(ranges...)
	if not {
		made, _ = made.Not()
	}
	s.push(parse.Node{Kind: 1, Set: made}, true)
	return api.OK, 0
}

func (s *slow) member(rest string, ranges *[]class.Range) (api.Errno, int) {
	at := s.at
	if rest[0] == '[' || rest[0] == '-' {
		return api.ErrClass, at
	}
	if severalWords.MatchString(rest) {
		s.at += 2
		if len(rest) > 2 && rest[2] == '-' {
			return api.ErrClass, at + 2
		}
		*ranges = append(*ranges, several(rest[1])...)
		return api.OK, 0
	}
	if m := rangeWords.FindStringSubmatch(rest); m != nil {
		s.at += len(m[0])
		lo, hi := meant(m[1]), meant(m[2])
		if lo > hi {
			return api.ErrClass, at
		}
		*ranges = append(*ranges, class.Range{Lo: lo, Hi: hi})
		return api.OK, 0
	}
	if m := halfWords.FindString(rest); m != "" {
		behind := rest[len(m):]
		if behind != "" && behind[0] == '\\' && !severalWords.MatchString(behind) {
			return api.ErrEscape, at + len(m)
		}
		return api.ErrClass, at
	}
	m := memberWords.FindString(rest)
	if m == "" {
		return api.ErrEscape, at
	}
	s.at += len(m)
	*ranges = append(*ranges, class.Range{Lo: meant(m), Hi: meant(m)})
	return api.OK, 0
}
