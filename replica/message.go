package replica

import (
	"slices"

	"colander/pack"
)

// The Kinds of messages.
const (
	add   = iota + 1 // a new entry, of the primary
	ack              // how long one's log is
	beat             // the primary is there
	start            // a view is wanted
	have             // what one has, for the primary of a view that begins
	lead             // the log with which a view begins
	ask              // a log is wanted
	tell             // the log that was wanted
)

// message is of a Kind, for one of the others, and tells what this Kind tells of how it is now.
func (r *Replica) message(kind, to int) pack.Message {
	s := r.state
	m := pack.Message{Kind: kind, View: s.View, From: r.config.ID, To: to, Op: len(s.Log)}
	switch kind {
	case add:
		m.Commit, m.Log = s.Commit, own(s.Log[len(s.Log)-1:])
	case beat:
		m.Commit = s.Commit
	case start:
		m.Op = 0
	case have:
		m.Commit, m.Normal, m.Log = s.Commit, s.Normal, own(s.Log)
	case lead, tell:
		m.Commit, m.Log = s.Commit, own(s.Log)
	}
	return m
}

// say is a message for one of the others.
func (r *Replica) say(kind, to int) []pack.Message { return []pack.Message{r.message(kind, to)} }

// sayAll is a message for each of the others, by rising number; no two of them share a list.
func (r *Replica) sayAll(kind int) []pack.Message {
	var list []pack.Message
	for id := range r.config.N {
		if id != r.config.ID {
			list = append(list, r.message(kind, id))
		}
	}
	return list
}

// sayPrimary is a message for the primary of its view.
func (r *Replica) sayPrimary(kind int) []pack.Message {
	return r.say(kind, r.config.primary(r.state.View))
}

// own is a log whose lists nobody else has.
func own(log []pack.Entry) []pack.Entry {
	list := slices.Clone(log)
	for i, e := range list {
		list[i].Delta.Put, list[i].Delta.Drop = slices.Clone(e.Delta.Put), slices.Clone(e.Delta.Drop)
	}
	return list
}
