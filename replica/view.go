package replica

import "colander/pack"

// forget leaves nothing of what belongs to a view.
func (r *Replica) forget() {
	clear(r.acks)
	clear(r.starts)
	clear(r.changes)
	r.told, r.quiet = false, 0
}

// enter goes into a view that it isn't normal in yet.
func (r *Replica) enter(view int) {
	r.state.View, r.changing = view, true
	r.forget()
}

// settle makes it normal in its view.
func (r *Replica) settle() {
	r.state.Normal, r.changing = r.state.View, false
	r.forget()
}

// begin begins a view that it wants itself, and says so to all.
func (r *Replica) begin(view int) []pack.Message {
	r.enter(view)
	r.starts[r.config.ID] = struct{}{}
	return r.sayAll(start)
}

// reach begins a view, if that is above its own.
func (r *Replica) reach(view int) []pack.Message {
	if view <= r.state.View {
		return nil
	}
	return r.begin(view)
}

// see says what it has, once in a view, when enough others want the view too.
func (r *Replica) see() []pack.Message {
	if r.told || !r.config.most(len(r.starts)) {
		return nil
	}
	r.told = true
	if r.leads(r.state.View) {
		return r.decide()
	}
	return r.sayPrimary(have)
}

// decide begins the view as its primary, with the best log of all that are known, when enough of them are.
func (r *Replica) decide() []pack.Message {
	if !r.config.most(len(r.changes) + 1) {
		return nil
	}
	best := pack.Message{Normal: r.state.Normal, Log: r.state.Log}
	commit := r.state.Commit
	for id := range r.config.N {
		m, ok := r.changes[id]
		if !ok || !r.fits(m.Log) {
			continue
		}
		commit = max(commit, m.Commit)
		if better(m, best) {
			best = m
		}
	}
	r.state.Log, r.state.Commit = best.Log, min(commit, len(best.Log))
	r.settle()
	return r.sayAll(lead)
}

// better tells whether a change goes ahead of one that came first: a newer view counts for more than a longer log.
func better(m, first pack.Message) bool {
	return m.Normal > first.Normal || m.Normal == first.Normal && len(m.Log) > len(first.Log)
}

// takeOver goes into a message's view with the message's log, if that keeps all that is committed here.
func (r *Replica) takeOver(m pack.Message) []pack.Message {
	if !r.fits(m.Log) {
		return nil
	}
	r.state.View, r.state.Log = m.View, m.Log
	r.commit(m.Commit)
	r.settle()
	return r.sayPrimary(ack)
}

// commit commits up to a number, as far as its log goes; what is committed stays so.
func (r *Replica) commit(n int) {
	r.state.Commit = max(r.state.Commit, min(n, len(r.state.Log)))
}

// fits tells whether a log begins with all that is committed here.
func (r *Replica) fits(log []pack.Entry) bool {
	return begins(log, r.state.Log[:r.state.Commit])
}

// begins tells whether a log begins with all of the first one.
func begins(log, first []pack.Entry) bool {
	return len(log) >= len(first) && pack.Same(log[:len(first)], first)
}
