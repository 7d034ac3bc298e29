package parse

import (
	"bytes"

	"colander/api"
	"colander/class"
	"colander/unit"
)

// reader goes over a pattern from the left. Beside a false, a call has told a fault, but for those that read something only if it is next.
type reader struct {
	text   []byte
	at     int
	depth  int
	groups int
	backs  []back
	fault  Fault
}

// back is where the pattern goes back to a group.
type back struct{ group, at int }

// refuse tells a fault. All reading ends there, so that it is the first one.
func (r *reader) refuse(code api.Errno, at int) bool {
	r.fault = Fault{code, at}
	return false
}

// ended tells whether all of the text is read.
func (r *reader) ended() bool { return r.at >= len(r.text) }

// sees tells whether signs are next.
func (r *reader) sees(signs string) bool {
	return bytes.HasPrefix(r.text[r.at:], []byte(signs))
}

// take goes over signs, if they are next.
func (r *reader) take(signs string) bool {
	if !r.sees(signs) {
		return false
	}
	r.at += len(signs)
	return true
}

// plain reads a unit that stands for itself, where one is.
func (r *reader) plain() int {
	u, size := unit.Next(r.text, r.at)
	r.at += size
	return u
}

// pattern reads all of the text.
func (r *reader) pattern() (Pattern, bool) {
	fold := r.take("(?i)")
	root, ok := r.alternatives()
	if !ok {
		return Pattern{}, false
	}
	// Outside all parentheses, alternatives end ahead of the text's end only at a parenthesis too many.
	if !r.ended() {
		return Pattern{}, r.refuse(api.ErrSyntax, r.at)
	}
	if !r.checkBacks() {
		return Pattern{}, false
	}
	return Pattern{Root: root, Groups: r.groups, Fold: fold}, true
}

// checkBacks waits for the text's end, as a group may stand behind what goes back to it.
func (r *reader) checkBacks() bool {
	for _, b := range r.backs {
		if b.group > r.groups {
			return r.refuse(api.ErrRef, b.at)
		}
	}
	return true
}

// alternatives reads rows with | between.
func (r *reader) alternatives() (Node, bool) {
	var rows []Node
	for {
		row, ok := r.row()
		if !ok {
			return Node{}, false
		}
		rows = append(rows, row)
		if !r.take("|") {
			break
		}
	}
	if len(rows) == 1 {
		return rows[0], true
	}
	return Node{Kind: Alt, Kids: rows}, true
}

// row reads atoms up to a | or ) or the text's end.
func (r *reader) row() (Node, bool) {
	var atoms []Node
atoms:
	for !r.ended() {
		switch r.text[r.at] {
		case '|', ')':
			break atoms
		}
		atom, ok := r.quantified()
		if !ok {
			return Node{}, false
		}
		atoms = append(atoms, atom)
	}
	switch len(atoms) {
	case 0:
		return Node{Kind: Empty}, true
	case 1:
		return atoms[0], true
	}
	return Node{Kind: Cat, Kids: atoms}, true
}

// quantified reads an atom, and the quantifier behind it, if there is one.
func (r *reader) quantified() (Node, bool) {
	// Grouping alone leaves no node: what is behind its parenthesis isn't right behind an edge or a look within it.
	grouped := r.sees("(?:")
	atom, ok := r.atom()
	if !ok {
		return Node{}, false
	}
	at := r.at
	if !r.seesQuantifier() {
		return atom, true
	}
	if !grouped && (atom.Kind == Edge || atom.Kind == Look) {
		return Node{}, r.refuse(api.ErrRepeat, at)
	}
	lo, hi, ok := r.times()
	if !ok {
		return Node{}, r.refuse(api.ErrRepeat, at)
	}
	return Node{Kind: Repeat, Lo: lo, Hi: hi, Mode: r.mode(), Kids: []Node{atom}}, true
}

// seesQuantifier tells whether a quantifier begins here, be it right or not.
func (r *reader) seesQuantifier() bool {
	return r.sees("*") || r.sees("+") || r.sees("?") || r.sees("{")
}

// times reads a quantifier: how many times at least and at most, and whether it is right.
func (r *reader) times() (lo, hi int, ok bool) {
	switch {
	case r.take("*"):
		return 0, endless, true
	case r.take("+"):
		return 1, endless, true
	case r.take("?"):
		return 0, 1, true
	}
	return r.braces()
}

// braces reads a quantifier in braces.
func (r *reader) braces() (lo, hi int, ok bool) {
	r.take("{")
	lo, ok = r.count()
	if !ok {
		return 0, 0, false
	}
	if r.take(",}") {
		return lo, endless, true
	}
	hi = lo
	if r.take(",") {
		hi, ok = r.count()
	}
	if !ok || lo > hi || !r.take("}") {
		return 0, 0, false
	}
	return lo, hi, true
}

// count reads a number of one or two digits.
func (r *reader) count() (int, bool) {
	begin, number := r.at, 0
	for !r.ended() && r.at < begin+2 && isDigit(r.text[r.at]) {
		number = 10*number + int(r.text[r.at]-'0')
		r.at++
	}
	return number, r.at > begin && number <= api.MaxRepeat
}

// isDigit tells whether a byte is a digit.
func isDigit(b byte) bool { return '0' <= b && b <= '9' }

// mode reads the sign behind a quantifier, if there is one.
func (r *reader) mode() int {
	switch {
	case r.take("?"):
		return lazy
	case r.take("+"):
		return possessive
	}
	return greedy
}

// atom reads what a quantifier may stand behind.
func (r *reader) atom() (Node, bool) {
	switch r.text[r.at] {
	case '(':
		return r.parentheses()
	case '[':
		return r.brackets()
	case '\\':
		return r.escape()
	case '*', '+', '?', '{':
		return Node{}, r.refuse(api.ErrRepeat, r.at)
	case ']', '}':
		return Node{}, r.refuse(api.ErrSyntax, r.at)
	}
	switch {
	case r.take("."):
		return Node{Kind: Set, Set: butLineFeed()}, true
	case r.take("^"):
		return Node{Kind: Edge, Ref: beginning}, true
	case r.take("$"):
		return Node{Kind: Edge, Ref: end}, true
	}
	return one(r.plain()), true
}

// one is the node of a single unit.
func one(u int) Node {
	return Node{Kind: Set, Set: class.Set{{Lo: u, Hi: u}}}
}

// butLineFeed is what the dot stands for.
func butLineFeed() class.Set {
	return class.Set{{Lo: 0, Hi: '\n' - 1}, {Lo: '\n' + 1, Hi: api.MaxUnit}}
}

// parentheses reads alternatives in parentheses.
func (r *reader) parentheses() (Node, bool) {
	open := r.at
	if r.depth == api.MaxDepth {
		return Node{}, r.refuse(api.ErrDeep, open)
	}
	node, ok := r.opening()
	if !ok {
		return Node{}, false
	}
	r.depth++
	kid, ok := r.alternatives()
	if !ok {
		return Node{}, false
	}
	if !r.take(")") {
		return Node{}, r.refuse(api.ErrSyntax, open)
	}
	r.depth--
	if node.Kind == Empty {
		return kid, true
	}
	node.Kids = []Node{kid}
	return node, true
}

// opening reads an opening parenthesis: the node that it begins, without its kid; an Empty one of grouping alone.
func (r *reader) opening() (Node, bool) {
	switch {
	case r.take("(?:"):
		return Node{Kind: Empty}, true
	case r.take("(?="):
		return Node{Kind: Look, Mode: ahead}, true
	case r.take("(?!"):
		return Node{Kind: Look, Mode: notAhead}, true
	case r.take("(?<="):
		return Node{Kind: Look, Mode: behind}, true
	case r.take("(?<!"):
		return Node{Kind: Look, Mode: notBehind}, true
	case r.take("(?>"):
		return Node{Kind: Atomic}, true
	case r.sees("(?"):
		return Node{}, r.refuse(api.ErrSyntax, r.at)
	case r.groups == api.MaxGroups:
		return Node{}, r.refuse(api.ErrGroup, r.at)
	}
	r.take("(")
	r.groups++
	return Node{Kind: Group, Ref: r.groups}, true
}
