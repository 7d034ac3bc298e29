package shape

import "colander/parse"

// Width is the least and the greatest number of units that a node takes; the greatest is -1, if it has no end.
func Width(n parse.Node) (lo int, hi int) {
	switch n.Kind {
	case parse.Set:
		return 1, 1
	case parse.Back:
		return 0, endless
	case parse.Cat, parse.Group, parse.Atomic:
		// A kid that is alone is as wide as a row of one.
		return rowWidth(n.Kids)
	case parse.Alt:
		return choiceWidth(n.Kids)
	case parse.Repeat:
		lo, hi = rowWidth(n.Kids)
		return bounded(n.Lo * lo), times(n.Hi, hi)
	}
	return 0, 0
}

// rowWidth is the widths of nodes, one behind the other.
func rowWidth(kids []parse.Node) (lo int, hi int) {
	for _, kid := range kids {
		kidLo, kidHi := Width(kid)
		lo, hi = bounded(lo+kidLo), together(hi, kidHi)
	}
	return lo, hi
}

// choiceWidth is the widths of nodes of which one is taken.
func choiceWidth(kids []parse.Node) (lo int, hi int) {
	for i, kid := range kids {
		kidLo, kidHi := Width(kid)
		if i == 0 {
			lo, hi = kidLo, kidHi
			continue
		}
		lo, hi = min(lo, kidLo), wider(hi, kidHi)
	}
	return lo, hi
}

// greatest is a greatest width as it is told: one above Far counts as without an end. Each node's is kept so low, as repeats within repeats would wrap round.
func greatest(width int) int {
	if width > Far {
		return endless
	}
	return width
}

// together is two greatest widths' sum.
func together(one, other int) int {
	if one == endless || other == endless {
		return endless
	}
	return greatest(one + other)
}

// wider is the greater one of two greatest widths.
func wider(one, other int) int {
	if one == endless || other == endless {
		return endless
	}
	return max(one, other)
}

// times is a greatest width, so many times.
func times(many, width int) int {
	// Nothing stays nothing, however often; and what isn't taken has no width, be it without an end.
	if many == 0 || width == 0 {
		return 0
	}
	if many == endless || width == endless {
		return endless
	}
	return greatest(many * width)
}
