package pack

import (
	"colander/api"
	"colander/rule"
)

// reader has the bytes that are not read yet, and whether what was read can't be so.
type reader struct {
	rest  []byte
	wrong bool
}

// decode reads the whole of a thing by the part that its kind is read by.
func decode[T righter](r *reader, part func() T) (T, api.Errno) {
	var none T
	if len(r.rest) > api.MaxFrame {
		return none, api.ErrForm
	}
	thing := part()
	if r.wrong || len(r.rest) > 0 || !thing.Right() {
		return none, api.ErrForm
	}
	return thing, api.OK
}

// readList reads how many parts a list has, and each of them, till something is wrong.
func readList[T any](r *reader, part func() T) []T {
	var list []T
	for range r.count() {
		// The bytes may end long ahead of what the list says.
		if r.wrong {
			return nil
		}
		list = append(list, part())
	}
	return list
}

// take is the next n bytes; fewer than these are wrong.
func (r *reader) take(n int) []byte {
	if n > len(r.rest) {
		r.wrong = true
		return nil
	}
	next := r.rest[:n]
	r.rest = r.rest[n:]
	return next
}

// number reads a number, which is one below its bytes.
func (r *reader) number() int {
	n := 0
	for _, c := range r.take(numberSize) {
		n = n<<8 | int(c)
	}
	return n - 1
}

// count reads how many parts or bytes there are; as each part has bytes, more parts than bytes are wrong.
func (r *reader) count() int {
	n := r.number()
	if !within(n, 0, len(r.rest)) {
		r.wrong = true
		return 0
	}
	return n
}

// text reads how many bytes a text has, and these.
func (r *reader) text() string { return string(r.take(r.count())) }

func (r *reader) rule() rule.Rule {
	return rule.Rule{ID: r.number(), Priority: r.number(), Action: r.number(), Scope: r.number(), Pattern: r.text()}
}

func (r *reader) delta() rule.Delta {
	return rule.Delta{
		Default: r.number(), Closed: r.number(), Fuel: r.number(), Stack: r.number(),
		Put: readList(r, r.rule), Drop: readList(r, r.number),
	}
}

func (r *reader) entry() Entry {
	return Entry{View: r.number(), Client: r.number(), Request: r.number(), Delta: r.delta()}
}

func (r *reader) message() Message {
	return Message{
		Kind: r.number(), View: r.number(), From: r.number(), To: r.number(), Op: r.number(), Commit: r.number(), Normal: r.number(),
		Log: readList(r, r.entry),
	}
}

func (r *reader) record() Record {
	return Record{Kind: r.number(), A: r.number(), B: r.number(), Log: readList(r, r.entry)}
}
