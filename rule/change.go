package rule

import (
	"cmp"
	"maps"
	"slices"

	"colander/api"
)

// Delta changes a set: each number that isn't keep takes the set's place, the rules of the IDs in Drop go, and those of Put come.
type Delta struct {
	Default, Closed, Fuel, Stack int
	Put                          []Rule
	Drop                         []int
}

// keep is a delta's number that leaves the set's as it is.
const keep = -1

// Apply changes a set; ErrForm of a set that isn't right, ErrRule, ErrTwice, ErrNone or ErrFull of a delta that can't change it.
func Apply(s Set, d Delta) (Set, api.Errno) {
	if !s.Right() {
		return Set{}, api.ErrForm
	}
	changed := numbered(s, d)
	// The set's own numbers are right, so it is the delta's that can make the changed ones wrong.
	if !changed.Right() || !all(d.Put, Rule.Right) {
		return Set{}, api.ErrRule
	}
	if twice(d) {
		return Set{}, api.ErrTwice
	}
	rules := byID(s.Rules)
	for _, id := range d.Drop {
		if _, there := rules[id]; !there {
			return Set{}, api.ErrNone
		}
		delete(rules, id)
	}
	for _, r := range d.Put {
		rules[r.ID] = r
	}
	if len(rules) > api.MaxRules {
		return Set{}, api.ErrFull
	}
	changed.Rules = inOrder(rules)
	return changed, api.OK
}

// numbered is a set without rules that has the numbers of a changed one.
func numbered(s Set, d Delta) Set {
	return Set{
		Default: changedTo(s.Default, d.Default),
		Closed:  changedTo(s.Closed, d.Closed),
		Fuel:    changedTo(s.Fuel, d.Fuel),
		Stack:   changedTo(s.Stack, d.Stack),
	}
}

// changedTo is what a set's number becomes by the delta's.
func changedTo(old, asked int) int {
	if asked == keep {
		return old
	}
	return asked
}

// twice tells whether a delta names an ID twice, in one of its lists or in both.
func twice(d Delta) bool {
	named := map[int]struct{}{}
	for _, r := range d.Put {
		named[r.ID] = struct{}{}
	}
	for _, id := range d.Drop {
		named[id] = struct{}{}
	}
	return len(named) < len(d.Put)+len(d.Drop)
}

// byID is rules by their IDs, no two of which are the same.
func byID(rules []Rule) map[int]Rule {
	m := make(map[int]Rule, len(rules))
	for _, r := range rules {
		m[r.ID] = r
	}
	return m
}

// inOrder is the rules of a map, their IDs rising.
func inOrder(rules map[int]Rule) []Rule {
	return slices.SortedFunc(maps.Values(rules), func(a, b Rule) int { return cmp.Compare(a.ID, b.ID) })
}

// Diff is the delta that changes a to b; ErrForm, if one of them isn't right.
func Diff(a Set, b Set) (Delta, api.Errno) {
	if !a.Right() || !b.Right() {
		return Delta{}, api.ErrForm
	}
	d := Delta{
		Default: unlike(a.Default, b.Default),
		Closed:  unlike(a.Closed, b.Closed),
		Fuel:    unlike(a.Fuel, b.Fuel),
		Stack:   unlike(a.Stack, b.Stack),
	}
	gone := byID(a.Rules)
	for _, r := range b.Rules {
		// What a map says of an ID that it hasn't is no right rule, so it is unlike, too.
		if gone[r.ID] != r {
			d.Put = append(d.Put, r)
		}
		delete(gone, r.ID)
	}
	d.Drop = slices.Sorted(maps.Keys(gone))
	return d, api.OK
}

// unlike is what a delta has of a number that is to become another one.
func unlike(old, becomes int) int {
	if old == becomes {
		return keep
	}
	return becomes
}
