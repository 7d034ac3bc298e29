package spare

import (
	"slices"

	"colander/pack"
	"colander/rule"
)

// Memory is logs that were handed in or told, and what stood in them then; with Spoils all of them are written over at once.
type Memory struct {
	Spoils       bool
	logs, before [][]pack.Entry
}

// Keep takes a log whose call is over.
func (m *Memory) Keep(log []pack.Entry) {
	if m.Spoils {
		SpoilLog(log)
	}
	m.logs, m.before = append(m.logs, log), append(m.before, WholeLog(log))
}

// Sound tells whether all logs are as they were, and no two lists of them share. It writes over what they have, so it comes last.
func (m *Memory) Sound() bool {
	for i, log := range m.logs {
		if !pack.Same(WholeLog(log), m.before[i]) {
			return false
		}
	}
	return m.Spoils || apart(m.logs) // nothing is left of the lists within a log that was written over
}

// apart tells whether no two lists of some logs share.
func apart(logs [][]pack.Entry) bool {
	var puts [][]rule.Rule
	var drops [][]int
	for _, e := range slices.Concat(logs...) {
		puts, drops = append(puts, e.Delta.Put), append(drops, e.Delta.Drop)
	}
	return alone(logs, func(n int) pack.Entry { return pack.Entry{View: n} }, func(e pack.Entry) int { return e.View }) &&
		alone(puts, func(n int) rule.Rule { return rule.Rule{ID: n} }, func(r rule.Rule) int { return r.ID }) &&
		alone(drops, func(n int) int { return n }, func(n int) int { return n })
}

// alone writes each list's number all over it and its spare room, and tells whether it stands there still when all are done.
func alone[T any](lists [][]T, mark func(n int) T, number func(T) int) bool {
	for n, list := range lists {
		Spoil(list, mark(n))
	}
	for n, list := range lists {
		if slices.ContainsFunc(list[:cap(list)], func(one T) bool { return number(one) != n }) {
			return false
		}
	}
	return true
}
