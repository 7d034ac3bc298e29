package replica

import (
	"colander/api"
	"colander/pack"
)

// Deliver takes a message of another one, and tells what it says to it; ErrForm, if it isn't right, or not for it, or of none of the others.
func (r *Replica) Deliver(m pack.Message) ([]pack.Message, api.Errno) {
	if !m.Right() || m.To != r.config.ID || m.From == r.config.ID || m.From >= r.config.N {
		return nil, api.ErrForm
	}
	if m.View < r.state.View {
		return nil, api.OK
	}
	m.Log = own(m.Log) // it may be kept
	return r.take(m), api.OK
}

// take takes a message of its view, or of one above it, by its Kind; what only the primary of that view may say or hear does nothing elsewhere.
func (r *Replica) take(m pack.Message) []pack.Message {
	mine := r.leads(m.View)
	theirs := m.From == r.config.primary(m.View)
	above := m.View > r.state.View
	switch {
	case theirs && (m.Kind == add || m.Kind == beat):
		return r.follow(m)
	case m.Kind == ack && !above && r.Role() == leader:
		r.count(m)
	case m.Kind == start:
		return r.want(m)
	case mine && m.Kind == have:
		return r.hear(m)
	case theirs && m.Kind == lead && (above || r.changing):
		return r.takeOver(m)
	case m.Kind == ask && !above && !r.changing:
		return r.say(tell, m.From)
	case !mine && m.Kind == tell && (above || r.changing || r.behind(m.Log)):
		return r.takeOver(m)
	}
	return nil
}

// behind tells whether a log is its own whole one, and more.
func (r *Replica) behind(log []pack.Entry) bool {
	return len(log) > len(r.state.Log) && begins(log, r.state.Log)
}

// follow takes what the primary of a view says: an entry that is the next one, and how much is committed; it asks for what it lacks.
func (r *Replica) follow(m pack.Message) []pack.Message {
	if m.View > r.state.View {
		r.enter(m.View)
	}
	r.quiet = 0
	if r.changing {
		return r.say(ask, m.From)
	}
	if m.Kind == add && m.Op == len(r.state.Log)+1 {
		r.state.Log = append(r.state.Log, m.Log...)
	}
	r.commit(m.Commit)
	if m.Op > len(r.state.Log) {
		return r.say(ask, m.From)
	}
	return r.say(ack, m.From)
}

// count takes how far another one has its log, and commits what more than half have.
func (r *Replica) count(m pack.Message) {
	r.acks[m.From] = max(r.acks[m.From], min(m.Op, len(r.state.Log)))
	for n := len(r.state.Log); n > r.state.Commit; n-- {
		if r.config.most(r.having(n)) {
			r.state.Commit = n
			return
		}
	}
}

// having is how many are known to have so many entries, itself among them.
func (r *Replica) having(n int) int {
	count := 1
	for _, has := range r.acks {
		if has >= n {
			count++
		}
	}
	return count
}

// want takes that another one wants a view.
func (r *Replica) want(m pack.Message) []pack.Message {
	out := r.reach(m.View)
	if !r.changing {
		return out
	}
	r.starts[m.From] = struct{}{}
	return append(out, r.see()...)
}

// hear takes what another one has, for the view that it is to begin; a view that has begun is told to who doesn't know it.
func (r *Replica) hear(m pack.Message) []pack.Message {
	out := r.reach(m.View)
	if !r.changing {
		return r.say(lead, m.From)
	}
	r.changes[m.From] = m
	return append(out, r.decide()...)
}
