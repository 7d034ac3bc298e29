package shape_test

import (
	"iter"
	"math/big"

	"colander/api"
	"colander/parse"
	"colander/shape"
)

// nodes are a node and all within it.
func nodes(n parse.Node) iter.Seq[parse.Node] {
	return func(yield func(parse.Node) bool) { each(n, yield) }
}

func each(n parse.Node, yield func(parse.Node) bool) bool {
	if !yield(n) {
		return false
	}
	for _, kid := range n.Kids {
		if !each(kid, yield) {
			return false
		}
	}
	return true
}

// number is a number of any size.
func number(n int) *big.Int { return big.NewInt(int64(n)) }

func plus(n, o *big.Int) *big.Int { return new(big.Int).Add(n, o) }

func times(n, o *big.Int) *big.Int { return new(big.Int).Mul(n, o) }

// near is a number, or Far, if it is above.
func near(n *big.Int) int {
	if n.Cmp(number(shape.Far)) > 0 {
		return shape.Far
	}
	return int(n.Int64())
}

// slowWidth is what Width is due to answer: worked out without bounds, which are looked at once, at the end.
func slowWidth(n parse.Node) (int, int) {
	lo, hi := exactWidth(n)
	if hi == nil || hi.Cmp(number(shape.Far)) > 0 {
		return near(lo), -1
	}
	return near(lo), near(hi)
}

// exactWidth is a node's widths without bounds; the greatest is nil, if it has no end.
func exactWidth(n parse.Node) (lo, hi *big.Int) {
	lo, hi = number(0), number(0)
	switch n.Kind {
	case 1:
		return number(1), number(1)
	case 2:
		for _, kid := range n.Kids {
			kidLo, kidHi := exactWidth(kid)
			lo = plus(lo, kidLo)
			if hi != nil && kidHi != nil {
				hi = plus(hi, kidHi)
			} else {
				hi = nil
			}
		}
	case 3:
		lo, hi = exactWidth(n.Kids[0])
		for _, kid := range n.Kids[1:] {
			kidLo, kidHi := exactWidth(kid)
			if kidLo.Cmp(lo) < 0 {
				lo = kidLo
			}
			if kidHi == nil || hi != nil && kidHi.Cmp(hi) > 0 {
				hi = kidHi
			}
		}
	case 4:
		return repeatWidth(n)
	case 5, 8:
		return exactWidth(n.Kids[0])
	case 6:
		return lo, nil
	}
	return lo, hi
}

func repeatWidth(n parse.Node) (lo, hi *big.Int) {
	lo, hi = exactWidth(n.Kids[0])
	lo = times(number(n.Lo), lo)
	if n.Hi == 0 || hi != nil && hi.Sign() == 0 {
		return lo, number(0)
	}
	if n.Hi == -1 || hi == nil {
		return lo, nil
	}
	return lo, times(number(n.Hi), hi)
}

// slowSize is what Size is due to answer.
func slowSize(n parse.Node) int { return near(exactSize(n)) }

// exactSize is a node's size without a bound.
func exactSize(n parse.Node) *big.Int {
	sum := number(0)
	for _, kid := range n.Kids {
		sum = plus(sum, exactSize(kid))
	}
	switch n.Kind {
	case 1, 6, 9:
		return number(1)
	case 3:
		return plus(sum, number(2*len(n.Kids)-2))
	case 4:
		size := times(number(n.Lo), sum)
		if n.Hi == -1 {
			size = plus(size, plus(sum, number(4)))
		} else {
			size = plus(size, times(number(n.Hi-n.Lo), plus(sum, number(1))))
		}
		return plus(size, number(map[int]int{2: 2}[n.Mode]))
	case 5, 7, 8:
		return plus(sum, number(2))
	}
	return sum
}

// slowCheck is what Check is due to answer.
func slowCheck(p parse.Pattern) api.Errno {
	for n := range nodes(p.Root) {
		if n.Kind != 7 || n.Mode < 2 {
			continue
		}
		if _, hi := exactWidth(n.Kids[0]); hi == nil || hi.Cmp(number(32)) > 0 {
			return api.ErrWidth
		}
	}
	if exactSize(p.Root).Cmp(number(1997)) > 0 {
		return api.ErrSize
	}
	return api.OK
}

// writer counts the instructions of a node one by one, as layer 5 writes them, as long as it has steps left.
type writer struct{ size, steps int }

// written is a node's size as it is written, and whether that came to an end.
func written(n parse.Node) (int, bool) {
	w := writer{steps: 5000}
	w.node(n)
	return w.size, w.steps > 0
}

func (w *writer) node(n parse.Node) {
	w.steps--
	if w.steps <= 0 {
		return
	}
	switch n.Kind {
	case 1, 6, 9:
		w.size++
	case 4:
		w.repeat(n)
	case 2:
		for _, kid := range n.Kids {
			w.node(kid)
		}
	case 3:
		for _, kid := range n.Kids[1:] {
			w.size++ // Split
			w.node(kid)
			w.size++ // Jump
		}
		w.node(n.Kids[0])
	case 5, 7, 8:
		w.size++ // Save, Look or Atomic
		w.node(n.Kids[0])
		w.size++ // Save or Done
	}
}

func (w *writer) repeat(n parse.Node) {
	if n.Mode == 2 {
		w.size += 2 // Atomic and Done
	}
	for range n.Lo {
		w.node(n.Kids[0])
	}
	if n.Hi == -1 {
		w.size += 2 // Split and Mark
		w.node(n.Kids[0])
		w.size += 2 // Guard and Jump
		return
	}
	for range n.Hi - n.Lo {
		w.size++ // Split
		w.node(n.Kids[0])
	}
}
