package vm

import (
	"colander/class"
	"colander/prog"
)

// The As of an Edge.
const (
	beginning = iota
	end
	ofWord
	notOfWord
)

// The As of a Look.
const (
	ahead = iota
	notAhead
	behind
	notBehind
)

// run is a run under way: where it is, where it is due, and how many choices and changes there were when it began.
type run struct {
	*machine
	place, at, target        int
	firstChoice, firstChange int
}

// step does one instruction, and tells what comes of it for the run.
func (r *run) step() int {
	i := &r.code[r.place]
	ok := true
	switch i.Op {
	case prog.Match:
		return succeeded
	case prog.Done:
		return r.done()
	case prog.Jump:
		r.place = i.A
		return underWay
	case prog.Split:
		return r.split(i)
	case prog.Look:
		return r.look(i)
	case prog.Atomic:
		return r.atomic(i)
	case prog.Set:
		ok = r.take(i.Set)
	case prog.Save:
		r.set(i.A, r.at)
	case prog.Mark:
		r.set(groupSlots+i.A, r.at)
	case prog.Guard:
		ok = r.slots[groupSlots+i.A] != r.at
	case prog.Back:
		ok = r.again(i.A, i.B == 1)
	case prog.Edge:
		ok = r.edge(i.A)
	}
	if !ok {
		return failed
	}
	r.place++
	return underWay
}

// back goes back to the run's last choice; false, if it has none.
func (r *run) back() bool {
	last := len(r.choices) - 1
	if last < r.firstChoice {
		return false
	}
	c := r.choices[last]
	r.choices = r.choices[:last]
	r.place, r.at = c.place, c.at
	r.undo(c.changes)
	return true
}

// done is what comes of a run that is through: it may be due elsewhere.
func (r *run) done() int {
	if r.target == nowhere || r.at == r.target {
		return succeeded
	}
	return failed
}

// split goes to one place, and keeps the other one as a choice, if there is room for it.
func (r *run) split(i *prog.Inst) int {
	if len(r.choices) == r.budget.Stack {
		return over
	}
	r.choices = append(r.choices, choice{i.B, r.at, len(r.changes)})
	r.deep = max(r.deep, len(r.choices))
	r.place = i.A
	return underWay
}

// look goes on behind a Look, if what it looks for is there, or isn't, as it asks.
func (r *run) look(i *prog.Inst) int {
	kind := failed
	if i.A == ahead || i.A == notAhead {
		kind, _ = r.do(r.place+1, r.at, nowhere)
	} else {
		kind = r.lookBehind(i.C, i.D)
	}
	wanted := succeeded
	if i.A == notAhead || i.A == notBehind {
		wanted = failed
	}
	switch kind {
	case over:
		return over
	case wanted:
		r.place = i.B
		return underWay
	}
	return failed
}

// lookBehind tries the widths, one after the other, and tells what came of the last run.
func (r *run) lookBehind(least, greatest int) int {
	kind := failed
	for width := least; width <= min(greatest, r.at) && kind == failed; width++ {
		kind, _ = r.do(r.place+1, r.at-width, r.at)
	}
	return kind
}

// atomic goes on behind an Atomic, where its run ended.
func (r *run) atomic(i *prog.Inst) int {
	kind, at := r.do(r.place+1, r.at, nowhere)
	if kind != succeeded {
		return kind
	}
	r.place, r.at = i.B, at
	return underWay
}

// take goes over one unit of a set; false, if there is none.
func (r *run) take(set class.Set) bool {
	if r.at == len(r.units) || !set.Has(r.units[r.at]) {
		return false
	}
	r.at++
	return true
}

// again goes over the units that a group has; false, if it has none yet, or they don't follow.
func (r *run) again(group int, twins bool) bool {
	from, to := r.slots[2*group], r.slots[2*group+1]
	if from == unset || to == unset {
		return false
	}
	// A group that has begun once more may begin behind its last end.
	width := max(to-from, 0)
	if width > len(r.units)-r.at {
		return false
	}
	for n := range width {
		had, has := r.units[from+n], r.units[r.at+n]
		if had != has && !(twins && class.Twin(had) == has) {
			return false
		}
	}
	r.at += width
	return true
}

// edge tells whether the position is at an Edge.
func (r *run) edge(ref int) bool {
	switch ref {
	case beginning:
		return r.at == 0
	case end:
		return r.at == len(r.units)
	}
	between := r.wordAt(r.at-1) != r.wordAt(r.at)
	return between == (ref == ofWord)
}

// wordAt tells whether there is a unit of a word at a position.
func (r *run) wordAt(at int) bool {
	if at < 0 || at >= len(r.units) {
		return false
	}
	unit := r.units[at]
	return 'a' <= unit && unit <= 'z' || 'A' <= unit && unit <= 'Z' || '0' <= unit && unit <= '9' || unit == '_'
}
