package ledger

import (
	"slices"

	"colander/api"
	"colander/pack"
)

// The Kinds of records, by what comes of them.
const (
	newView    = iota + 1 // A, and B for Normal
	newEntry              // one more
	shorterLog            // A entries
	newCommit             // A
	newActive             // A
)

// Apply changes a state by a record; ErrForm, if one of them isn't right, ErrState, if the record can't be applied.
func Apply(s State, r pack.Record) (State, api.Errno) {
	if !s.Right() || !r.Right() {
		return State{}, api.ErrForm
	}
	if !applies(s, r) {
		return State{}, api.ErrState
	}
	return own(change(s, r)), api.OK
}

// applies tells whether a right record can be applied to a right state.
func applies(s State, r pack.Record) bool {
	switch r.Kind {
	case newView:
		return r.A >= s.View && within(r.B, s.Normal, r.A)
	case newEntry:
		return len(s.Log) < api.MaxLog
	case shorterLog, newCommit:
		return within(r.A, s.Commit, len(s.Log))
	case newActive:
		return r.A <= api.MaxLog
	}
	return false
}

// change is what comes of a state by a record that can be applied; its lists may be those of both, which stay as they are.
func change(s State, r pack.Record) State {
	switch r.Kind {
	case newView:
		s.View, s.Normal = r.A, r.B
	case newEntry:
		// A new list, as what lies behind the old one may be somebody else's.
		s.Log = slices.Concat(s.Log, r.Log)
	case shorterLog:
		s.Log = s.Log[:r.A]
	case newCommit:
		s.Commit = r.A
	case newActive:
		s.Active = r.A
	}
	return s
}

// Between is the records that lead from a state to another one; ErrForm, if one of them isn't right, ErrState, if these can't be applied.
func Between(a State, b State) ([]pack.Record, api.Errno) {
	if !a.Right() || !b.Right() {
		return nil, api.ErrForm
	}
	records := append(logRecords(a.Log, b.Log), numberRecords(a, b)...)
	for _, r := range records {
		if !applies(a, r) {
			return nil, api.ErrState
		}
		a = change(a, r)
	}
	return records, api.OK
}

// logRecords is the records that lead from a log to another one.
func logRecords(a, b []pack.Entry) []pack.Record {
	var records []pack.Record
	same := common(a, b)
	if same < len(a) {
		records = append(records, pack.Record{Kind: shorterLog, A: same})
	}
	for _, e := range b[same:] {
		records = append(records, pack.Record{Kind: newEntry, Log: []pack.Entry{ownEntry(e)}})
	}
	return records
}

// common is how many entries the longest common beginning of two logs has.
func common(a, b []pack.Entry) int {
	n := 0
	for n < min(len(a), len(b)) && pack.Same(a[n:n+1], b[n:n+1]) {
		n++
	}
	return n
}

// numberRecords is the records of a state's numbers that are others in the second one.
func numberRecords(a, b State) []pack.Record {
	var records []pack.Record
	if b.View != a.View || b.Normal != a.Normal {
		records = append(records, pack.Record{Kind: newView, A: b.View, B: b.Normal})
	}
	if b.Commit != a.Commit {
		records = append(records, pack.Record{Kind: newCommit, A: b.Commit})
	}
	if b.Active != a.Active {
		records = append(records, pack.Record{Kind: newActive, A: b.Active})
	}
	return records
}
