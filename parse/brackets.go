package parse

import (
	"colander/api"
	"colander/class"
)

// escape reads an escape that stands outside brackets.
func (r *reader) escape() (Node, bool) {
	at := r.at
	switch {
	case r.take(`\b`):
		return Node{Kind: Edge, Ref: ofWord}, true
	case r.take(`\B`):
		return Node{Kind: Edge, Ref: notOfWord}, true
	}
	if group, ok := r.group(); ok {
		r.backs = append(r.backs, back{group, at})
		return Node{Kind: Back, Ref: group}, true
	}
	if set, ok := r.shorthand(); ok {
		return Node{Kind: Set, Set: set}, true
	}
	u, ok := r.escapedUnit()
	if !ok {
		return Node{}, false
	}
	return one(u), true
}

// sign is the byte behind a backslash, if both are next; else 0, which makes no escape.
func (r *reader) sign() byte {
	if !r.sees(`\`) || r.at+1 >= len(r.text) {
		return 0
	}
	return r.text[r.at+1]
}

// group reads a backslash and the number of a group, if they are next.
func (r *reader) group() (int, bool) {
	sign := r.sign()
	if !isDigit(sign) || sign == '0' {
		return 0, false
	}
	r.at += len(`\1`)
	return int(sign - '0'), true
}

// unitsOf is what an escape with a sign stands for, if that is many units.
func unitsOf(sign byte) (class.Set, bool) {
	var set class.Set
	switch sign {
	case 'd', 'D':
		set = class.Set{{Lo: '0', Hi: '9'}}
	case 'w', 'W':
		set = class.Set{{Lo: '0', Hi: '9'}, {Lo: 'A', Hi: 'Z'}, {Lo: '_', Hi: '_'}, {Lo: 'a', Hi: 'z'}}
	case 's', 'S':
		set = class.Set{{Lo: '\t', Hi: '\r'}, {Lo: ' ', Hi: ' '}}
	default:
		return nil, false
	}
	if 'A' <= sign && sign <= 'Z' {
		set, _ = set.Not()
	}
	return set, true
}

// shorthand reads an escape that stands for many units, if one is next.
func (r *reader) shorthand() (class.Set, bool) {
	set, ok := unitsOf(r.sign())
	if ok {
		r.at += len(`\d`)
	}
	return set, ok
}

// escapedUnit reads an escape that stands for one unit; none other may be next.
func (r *reader) escapedUnit() (int, bool) {
	sign := r.sign()
	u := int(sign)
	switch {
	case sign == 'x':
		return r.hexUnit()
	case sign == 'n':
		u = '\n'
	case sign == 't':
		u = '\t'
	case sign == 'r':
		u = '\r'
	case !isMark(sign):
		return 0, r.refuse(api.ErrEscape, r.at)
	}
	r.at += len(`\n`)
	return u, true
}

// isMark tells whether a byte is a sign that is neither letter nor digit, and to be seen.
func isMark(b byte) bool {
	letter := 'A' <= b && b <= 'Z' || 'a' <= b && b <= 'z'
	return '!' <= b && b <= '~' && !letter && !isDigit(b)
}

// hexUnit reads an escape with the number of its unit.
func (r *reader) hexUnit() (int, bool) {
	const size = len(`\x00`)
	if len(r.text)-r.at < size {
		return 0, r.refuse(api.ErrEscape, r.at)
	}
	high, highRight := hexDigit(r.text[r.at+2])
	low, lowRight := hexDigit(r.text[r.at+3])
	if !highRight || !lowRight {
		return 0, r.refuse(api.ErrEscape, r.at)
	}
	r.at += size
	return 16*high + low, true
}

// hexDigit is the number of a digit, and whether it is one: letters are small ones alone.
func hexDigit(b byte) (int, bool) {
	switch {
	case isDigit(b):
		return int(b - '0'), true
	case 'a' <= b && b <= 'f':
		return int(b-'a') + 10, true
	}
	return 0, false
}

// brackets reads a class.
func (r *reader) brackets() (Node, bool) {
	open := r.at
	r.take("[")
	not := r.take("^")
	var members class.Set
	for !r.sees("]") {
		if r.ended() {
			return Node{}, r.refuse(api.ErrClass, open)
		}
		member, ok := r.member()
		if !ok {
			return Node{}, false
		}
		members = append(members, member...)
	}
	if len(members) == 0 {
		return Node{}, r.refuse(api.ErrClass, open)
	}
	r.take("]")
	set, _ := class.Make(members...)
	if not {
		set, _ = set.Not()
	}
	return Node{Kind: Set, Set: set}, true
}

// member reads a member of a class, where the class has not ended.
func (r *reader) member() (class.Set, bool) {
	first := r.at
	if r.sees("[") || r.sees("-") {
		return nil, r.refuse(api.ErrClass, first)
	}
	// A - behind it is told as one where the next member begins.
	if set, ok := r.shorthand(); ok {
		return set, true
	}
	lo, ok := r.memberUnit()
	if !ok {
		return nil, false
	}
	if !r.take("-") {
		return class.Set{{Lo: lo, Hi: lo}}, true
	}
	if !r.seesUnit() {
		return nil, r.refuse(api.ErrClass, first)
	}
	// An escape that is none is told ahead of the range, as the reading doesn't come to the range's end.
	hi, ok := r.memberUnit()
	if !ok {
		return nil, false
	}
	if hi < lo {
		return nil, r.refuse(api.ErrClass, first)
	}
	return class.Set{{Lo: lo, Hi: hi}}, true
}

// seesUnit tells whether what is next in a class begins as a unit does.
func (r *reader) seesUnit() bool {
	if r.ended() {
		return false
	}
	switch r.text[r.at] {
	case '[', ']', '-':
		return false
	}
	_, many := unitsOf(r.sign())
	return !many
}

// memberUnit reads a unit of a class, as itself or as an escape.
func (r *reader) memberUnit() (int, bool) {
	if r.sees(`\`) {
		return r.escapedUnit()
	}
	return r.plain(), true
}
