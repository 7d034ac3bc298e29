package ledger

import (
	"slices"

	"colander/api"
	"colander/pack"
)

// State is what a node keeps: its view and the last one in which it was normal, its log, how much of it is committed, and the version in use.
type State struct {
	View, Normal, Commit, Active int
	Log                          []pack.Entry
}

// within tells whether a number is from lo to hi.
func within(n, lo, hi int) bool { return lo <= n && n <= hi }

// Right tells whether a state's numbers and its log are what they may be.
func (s State) Right() bool {
	return within(s.View, 0, api.MaxNumber) && within(s.Normal, 0, s.View) &&
		len(s.Log) <= api.MaxLog && !slices.ContainsFunc(s.Log, wrong) &&
		within(s.Commit, 0, len(s.Log)) && within(s.Active, 0, api.MaxLog)
}

// wrong tells whether an entry isn't right.
func wrong(e pack.Entry) bool { return !e.Right() }

// own is a state whose lists nobody else has.
func own(s State) State {
	var log []pack.Entry
	for _, e := range s.Log {
		log = append(log, ownEntry(e))
	}
	s.Log = log
	return s
}

// ownEntry is an entry whose lists nobody else has.
func ownEntry(e pack.Entry) pack.Entry {
	e.Delta.Put, e.Delta.Drop = slices.Clone(e.Delta.Put), slices.Clone(e.Delta.Drop)
	return e
}
