package vm

import (
	"iter"

	"colander/api"
	"colander/prog"
)

// What comes of a run are the Kinds of a Result; a step may leave its run under way, too.
const (
	failed = iota
	succeeded
	over
	underWay
)

const (
	// groupSlots is how many slots the groups and the whole have; the loops' slots are behind them.
	groupSlots = 2 * (api.MaxGroups + 1)
	// unset is what a slot has at first.
	unset = -1
	// nowhere is the target of a run that has none.
	nowhere = -1
)

// choice is where a run goes on if it fails; its slots are those of now, without the changes behind the first so many.
type choice struct{ place, at, changes int }

// change is what a slot had ahead of it.
type change struct{ slot, was int }

// machine is what all runs of a match share.
type machine struct {
	code        []prog.Inst
	units       []int
	budget      Budget
	steps, deep int
	slots       []int
	// The slots can be hundreds, and choices thousands: a choice keeps how many changes there were, not its slots.
	changes []change
	choices []choice
}

// start is a machine ahead of its first run.
func start(p []prog.Inst, units []int, b Budget) *machine {
	slots := make([]int, groupSlots+prog.Loops(p))
	for at := range slots {
		slots[at] = unset
	}
	return &machine{code: p, units: units, budget: b, slots: slots}
}

// set changes a slot.
func (m *machine) set(slot, to int) {
	m.changes = append(m.changes, change{slot, m.slots[slot]})
	m.slots[slot] = to
}

// taken goes through the changes behind the first so many, the last one first, and takes each of them away.
func (m *machine) taken(first int) iter.Seq[change] {
	return func(yield func(change) bool) {
		for len(m.changes) > first {
			last := len(m.changes) - 1
			c := m.changes[last]
			m.changes = m.changes[:last]
			if !yield(c) {
				return
			}
		}
	}
}

// undo makes the slots what they were when there were so many changes.
func (m *machine) undo(first int) {
	for c := range m.taken(first) {
		m.slots[c.slot] = c.was
	}
}

// do does a whole run, from a place and a position on; it tells what came of it, and at which position.
func (m *machine) do(place, at, target int) (kind int, end int) {
	r := run{machine: m, place: place, at: at, target: target, firstChoice: len(m.choices), firstChange: len(m.changes)}
	kind = over
steps:
	for m.steps < m.budget.Fuel {
		m.steps++
		switch came := r.step(); {
		case came == underWay, came == failed && r.back():
			continue steps
		default:
			kind = came
			break steps
		}
	}
	switch kind {
	case succeeded:
		// The changes stay listed: a choice of the run around this one may yet ask for them to be undone.
		m.choices = m.choices[:r.firstChoice]
	case failed:
		m.undo(r.firstChange)
	}
	return kind, r.at
}
