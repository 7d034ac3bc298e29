package pack

import (
	"colander/api"
	"colander/rule"
)

// numberSize is how many bytes a number has.
const numberSize = 6

// writer has the bytes that are written so far.
type writer struct{ b []byte }

// encode writes the whole of a thing by the part that its kind is written by.
func encode[T righter](w *writer, thing T, part func(T)) ([]byte, api.Errno) {
	if !thing.Right() {
		return nil, api.ErrForm
	}
	part(thing)
	if len(w.b) > api.MaxFrame {
		return nil, api.ErrBig
	}
	return w.b, api.OK
}

// writeList writes how many parts a list has, and each of them.
func writeList[T any](w *writer, list []T, part func(T)) {
	w.number(len(list))
	for _, one := range list {
		part(one)
	}
}

// number writes the number above n, so that -1 has bytes, too.
func (w *writer) number(n int) {
	for shift := 8 * (numberSize - 1); shift >= 0; shift -= 8 {
		w.b = append(w.b, byte((n+1)>>shift))
	}
}

// numbers writes one number behind the other.
func (w *writer) numbers(list ...int) {
	for _, n := range list {
		w.number(n)
	}
}

// text writes how many bytes a text has, and these.
func (w *writer) text(s string) {
	w.number(len(s))
	w.b = append(w.b, s...)
}

func (w *writer) rule(r rule.Rule) {
	w.numbers(r.ID, r.Priority, r.Action, r.Scope)
	w.text(r.Pattern)
}

func (w *writer) delta(d rule.Delta) {
	w.numbers(d.Default, d.Closed, d.Fuel, d.Stack)
	writeList(w, d.Put, w.rule)
	writeList(w, d.Drop, w.number)
}

func (w *writer) entry(e Entry) {
	w.numbers(e.View, e.Client, e.Request)
	w.delta(e.Delta)
}

func (w *writer) message(m Message) {
	w.numbers(m.Kind, m.View, m.From, m.To, m.Op, m.Commit, m.Normal)
	writeList(w, m.Log, w.entry)
}

func (w *writer) record(r Record) {
	w.numbers(r.Kind, r.A, r.B)
	writeList(w, r.Log, w.entry)
}
