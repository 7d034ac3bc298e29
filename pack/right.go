package pack

import (
	"colander/api"
	"colander/rule"
)

// keep is the least number of a delta: it leaves the set's number as it is.
const keep = -1

// lastNode is the highest number of a node, where there are as many as may be.
const lastNode = 6

// The Kinds of messages that have entries, and the last Kind of all.
const (
	newEntry    = 1 // the entry that is to be agreed on
	ownLog      = 5 // what a node has, ahead of a view
	viewLog     = 6 // what a view begins with
	askedLog    = 8 // what one that asked is told
	lastMessage = 8
)

// The Kind of records that has an entry, and the last Kind of all.
const (
	addedEntry = 2
	lastRecord = 5
)

// righter is a thing that may be right.
type righter interface{ Right() bool }

// within tells whether a number is from lo to hi.
func within(n, lo, hi int) bool { return lo <= n && n <= hi }

// allWithin tells whether each number of a list is from lo to hi.
func allWithin(list []int, lo, hi int) bool {
	for _, n := range list {
		if !within(n, lo, hi) {
			return false
		}
	}
	return true
}

// allRight tells whether each part of a list is right.
func allRight[T righter](list []T) bool {
	for _, part := range list {
		if !part.Right() {
			return false
		}
	}
	return true
}

// Right tells whether an entry's numbers and its delta are what they may be.
func (e Entry) Right() bool {
	return within(e.View, 0, api.MaxNumber) && within(e.Client, 1, api.MaxNumber) && within(e.Request, 1, api.MaxNumber) &&
		rightDelta(e.Delta)
}

// rightDelta asks no more than that a delta can be told in bytes; whether it can change a set is for others to say.
func rightDelta(d rule.Delta) bool {
	return allWithin([]int{d.Default, d.Closed, d.Fuel, d.Stack}, keep, api.MaxNumber) &&
		len(d.Put) <= api.MaxRules && allRight(d.Put) &&
		len(d.Drop) <= api.MaxRules && allWithin(d.Drop, 1, api.MaxNumber)
}

// Right tells whether a message's numbers are what they may be, and its log is as its Kind asks.
func (m Message) Right() bool {
	least, most := messageEntries(m.Kind)
	return within(m.Kind, 1, lastMessage) &&
		within(m.View, 0, api.MaxNumber) && within(m.Normal, 0, api.MaxNumber) &&
		within(m.From, 0, lastNode) && within(m.To, 0, lastNode) &&
		within(m.Op, 0, api.MaxLog) && within(m.Commit, 0, api.MaxLog) &&
		within(len(m.Log), least, most) && allRight(m.Log)
}

// messageEntries is how many entries a message of a Kind has at least and at most.
func messageEntries(kind int) (least, most int) {
	switch kind {
	case newEntry:
		return 1, 1
	case ownLog, viewLog, askedLog:
		return 0, api.MaxLog
	}
	return 0, 0
}

// Right tells whether a record's numbers are what they may be, and its log is as its Kind asks.
func (r Record) Right() bool {
	many := recordEntries(r.Kind)
	return within(r.Kind, 1, lastRecord) && within(r.A, 0, api.MaxNumber) && within(r.B, 0, api.MaxNumber) &&
		len(r.Log) == many && allRight(r.Log)
}

// recordEntries is how many entries a record of a Kind has.
func recordEntries(kind int) int {
	if kind == addedEntry {
		return 1
	}
	return 0
}
