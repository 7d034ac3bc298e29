// Package spare is for tests that look whether what is handed in is changed or kept, and whether what is told is new memory: it makes lists with something in their spare room, and writes over lists with all their room.
package spare

import (
	"slices"

	"colander/pack"
	"colander/rule"
)

// Rubbish is a rule that stands where nobody may look.
func Rubbish() rule.Rule {
	return rule.Rule{ID: 77, Priority: 77, Action: 77, Scope: 77, Pattern: "rubbish"}
}

// rubbishEntry is an entry that stands where nobody may look.
func rubbishEntry() pack.Entry {
	return pack.Entry{View: 77, Client: 77, Request: 77, Delta: rule.Delta{Put: []rule.Rule{Rubbish()}}}
}

// List is a list with spare room behind it, in which something stands.
func List[T any](list []T, with T) []T {
	return append(slices.Clone(list), with, with, with)[:len(list)]
}

// Entry is an entry with spare room behind its lists.
func Entry(e pack.Entry) pack.Entry {
	e.Delta.Put, e.Delta.Drop = List(e.Delta.Put, Rubbish()), List(e.Delta.Drop, 77)
	return e
}

// Log is entries with spare room behind all their lists.
func Log(log []pack.Entry) []pack.Entry {
	list := List(log, rubbishEntry())
	for i, e := range list {
		list[i] = Entry(e)
	}
	return list
}

// WholeEntry is a copy of an entry, and of all that stands in its lists' spare room.
func WholeEntry(e pack.Entry) pack.Entry {
	e.Delta.Put = slices.Clone(e.Delta.Put[:cap(e.Delta.Put)])
	e.Delta.Drop = slices.Clone(e.Delta.Drop[:cap(e.Delta.Drop)])
	return e
}

// WholeLog is a copy of entries, and of all that stands in their lists' spare room.
func WholeLog(log []pack.Entry) []pack.Entry {
	list := slices.Clone(log[:cap(log)])
	for i, e := range list {
		list[i] = WholeEntry(e)
	}
	return list
}

// Spoil writes over a list and all its spare room.
func Spoil[T any](list []T, with T) {
	for i := range list[:cap(list)] {
		list[:cap(list)][i] = with
	}
}

// SpoilRules writes over rules.
func SpoilRules(list []rule.Rule) { Spoil(list, Rubbish()) }

// SpoilEntry writes over an entry's lists.
func SpoilEntry(e pack.Entry) {
	SpoilRules(e.Delta.Put)
	Spoil(e.Delta.Drop, 88)
}

// SpoilLog writes over entries and all their lists.
func SpoilLog(log []pack.Entry) {
	for _, e := range log {
		SpoilEntry(e)
	}
	Spoil(log, rubbishEntry())
}
