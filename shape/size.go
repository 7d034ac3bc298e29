package shape

import "colander/parse"

// How many instructions are needed beside the kids' own.
const (
	perParentheses = 2 // of a Group, a Look, an Atomic
	perChoice      = 2 // of an Alt's each kid but the last
	perLoop        = 4 // of a Repeat without an end
	perOption      = 1 // of each time that a Repeat may leave out
	perPossessive  = 2
	perPattern     = 3
)

// Size is how many instructions a node needs; at most Far.
func Size(n parse.Node) int {
	switch n.Kind {
	case parse.Set, parse.Back, parse.Edge:
		return 1
	case parse.Cat:
		return rowSize(n.Kids)
	case parse.Alt:
		return bounded(rowSize(n.Kids) + perChoice*(len(n.Kids)-1))
	case parse.Group, parse.Look, parse.Atomic:
		return bounded(rowSize(n.Kids) + perParentheses)
	case parse.Repeat:
		return bounded(repeatSize(n))
	}
	return 0
}

// patternSize is how many instructions a whole pattern needs; at most Far.
func patternSize(p parse.Pattern) int { return bounded(Size(p.Root) + perPattern) }

// rowSize is the size of nodes, one behind the other; a kid that is alone is a row of one.
func rowSize(kids []parse.Node) int {
	size := 0
	for _, kid := range kids {
		size = bounded(size + Size(kid))
	}
	return size
}

// repeatSize is a Repeat's size, that isn't bounded yet.
func repeatSize(n parse.Node) int {
	kid := rowSize(n.Kids)
	size := n.Lo * kid
	if n.Hi == endless {
		size += kid + perLoop
	} else {
		size += (n.Hi - n.Lo) * (kid + perOption)
	}
	if n.Mode == possessive {
		size += perPossessive
	}
	return size
}
