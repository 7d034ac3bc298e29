package prog

import (
	"colander/class"
	"colander/parse"
	"colander/shape"
)

// The Modes of a Repeat that isn't greedy.
const (
	lazy       = 1
	possessive = 2
)

// The Modes of a Look that goes backwards.
const (
	behind    = 2
	notBehind = 3
)

// endless is the Hi of a Repeat without an end.
const endless = -1

// writer writes a program, one instruction behind the other.
type writer struct {
	code  []Inst
	loops int
	fold  bool
}

// here is the place where the next instruction will stand.
func (w *writer) here() int { return len(w.code) }

// put writes an instruction, and answers its place.
func (w *writer) put(i Inst) int {
	at := w.here()
	w.code = append(w.code, i)
	return at
}

// node writes a node's code.
func (w *writer) node(n parse.Node) {
	switch n.Kind {
	case parse.Set:
		w.put(Inst{Op: Set, Set: w.units(n.Set)})
	case parse.Cat:
		w.row(n.Kids)
	case parse.Alt:
		w.choice(n.Kids)
	case parse.Repeat:
		w.repeat(n)
	case parse.Group:
		w.put(Inst{Op: Save, A: 2 * n.Ref})
		w.row(n.Kids)
		w.put(Inst{Op: Save, A: 2*n.Ref + 1})
	case parse.Back:
		w.back(n.Ref)
	case parse.Look:
		w.look(n)
	case parse.Atomic:
		w.within(Inst{Op: Atomic}, func() { w.row(n.Kids) })
	case parse.Edge:
		w.put(Inst{Op: Edge, A: n.Ref})
	}
}

// units is a set as the program has it: a copy, as the pattern's own set is its owner's.
func (w *writer) units(set class.Set) class.Set {
	if !w.fold {
		return append(class.Set(nil), set...)
	}
	folded, _ := set.Fold()
	return folded
}

// row writes nodes, one behind the other; a kid that is alone is a row of one.
func (w *writer) row(kids []parse.Node) {
	for _, kid := range kids {
		w.node(kid)
	}
}

// choice writes nodes of which one is taken, the first one first.
func (w *writer) choice(kids []parse.Node) {
	last := len(kids) - 1
	var jumps []int
	for i, kid := range kids {
		if i == last {
			w.node(kid)
			break
		}
		split := w.put(Inst{Op: Split})
		w.node(kid)
		jumps = append(jumps, w.put(Inst{Op: Jump}))
		w.fork(split, false)
	}
	for _, at := range jumps {
		w.code[at].A = w.here()
	}
}

// fork sets where a Split leads: to the place behind it, or else to where the code ends by now; the other way round, if it is lazy.
func (w *writer) fork(split int, isLazy bool) {
	in, out := split+1, w.here()
	if isLazy {
		in, out = out, in
	}
	w.code[split].A, w.code[split].B = in, out
}

// back writes the way back to a group.
func (w *writer) back(group int) {
	i := Inst{Op: Back, A: group}
	if w.fold {
		i.B = 1
	}
	w.put(i)
}

// look writes a Look; only one that goes backwards is asked how wide it is.
func (w *writer) look(n parse.Node) {
	i := Inst{Op: Look, A: n.Mode}
	if n.Mode == behind || n.Mode == notBehind {
		// A kid that is alone is as wide as a row of one.
		i.C, i.D = shape.Width(parse.Node{Kind: parse.Cat, Kids: n.Kids})
	}
	w.within(i, func() { w.row(n.Kids) })
}

// within writes an instruction that reaches up to behind its Done, and between the two what inside writes.
func (w *writer) within(i Inst, inside func()) {
	at := w.put(i)
	inside()
	w.put(Inst{Op: Done})
	w.code[at].B = w.here()
}

// repeat writes a Repeat.
func (w *writer) repeat(n parse.Node) {
	if n.Mode == possessive {
		w.within(Inst{Op: Atomic}, func() { w.times(n) })
		return
	}
	w.times(n)
}

// times writes a Repeat's kid: as often as it must be there, and then as often as it may.
func (w *writer) times(n parse.Node) {
	for range n.Lo {
		from := w.here()
		w.row(n.Kids)
		if w.here() == from {
			// It has no code, however often; repeats of nothing within one another would never come to an end.
			break
		}
	}
	if n.Hi == endless {
		w.loop(n)
		return
	}
	w.options(n)
}

// loop writes a Repeat's kid without an end.
func (w *writer) loop(n parse.Node) {
	split := w.put(Inst{Op: Split})
	// The number is taken ahead of the kid's own loops, as its Mark stands ahead of theirs.
	number := w.loops
	w.loops++
	w.put(Inst{Op: Mark, A: number})
	w.row(n.Kids)
	w.put(Inst{Op: Guard, A: number})
	w.put(Inst{Op: Jump, A: split})
	w.fork(split, n.Mode == lazy)
}

// options writes a Repeat's kid as often as it may be left out.
func (w *writer) options(n parse.Node) {
	var splits []int
	for range n.Hi - n.Lo {
		splits = append(splits, w.put(Inst{Op: Split}))
		w.row(n.Kids)
	}
	for _, split := range splits {
		w.fork(split, n.Mode == lazy)
	}
}
