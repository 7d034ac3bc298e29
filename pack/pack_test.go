package pack_test

import (
	"bytes"
	"encoding/binary"
	"encoding/hex"
	"math"
	"reflect"
	"slices"
	"strings"
	"testing"

	"colander/api"
	"colander/pack"
	"colander/rule"
)

// The chapter's types, field by field: they can only be made of one another while they are the same.
var (
	_ = struct {
		View, Client, Request int
		Delta                 rule.Delta
	}(pack.Entry{})
	_ = struct {
		Kind, View, From, To, Op, Commit, Normal int
		Log                                      []pack.Entry
	}(pack.Message{})
	_ = struct {
		Kind, A, B int
		Log        []pack.Entry
	}(pack.Record{})
)

// ruleOf is a right rule of an ID.
func ruleOf(id int) rule.Rule {
	return rule.Rule{ID: id, Priority: 10 + id, Action: 20 + id, Scope: 30 + id, Pattern: strings.Repeat("é", id) + "\xff("}
}

// rulesOf are n right rules.
func rulesOf(n int) []rule.Rule {
	var list []rule.Rule
	for i := range n {
		list = append(list, ruleOf(i+1))
	}
	return list
}

// upTo are the numbers from 1 to n.
func upTo(n int) []int {
	var list []int
	for i := range n {
		list = append(list, i+1)
	}
	return list
}

// plain is a right entry that changes nothing.
func plain(client, request int) pack.Entry {
	return pack.Entry{Client: client, Request: request, Delta: rule.Delta{Default: -1, Closed: -1, Fuel: -1, Stack: -1}}
}

// full is a right entry with every part filled, each of its own lists.
func full() pack.Entry {
	return pack.Entry{View: 7, Client: 5, Request: 9, Delta: rule.Delta{Default: 3, Closed: 4, Fuel: 500, Stack: 60, Put: rulesOf(3), Drop: []int{70, 80, 90}}}
}

// entries are n right ones, no two of them like another; most are small.
func entries(n int) []pack.Entry {
	var list []pack.Entry
	for i := range n {
		e := plain(i+1, 2*i+1)
		if i%7 == 1 {
			e = full()
			e.View = i
		}
		list = append(list, e)
	}
	return list
}

// message is a right one of a Kind, with so many entries.
func message(kind, n int) pack.Message {
	return pack.Message{Kind: kind, View: 300, From: 2, To: 1, Op: 40, Commit: 30, Normal: 200, Log: entries(n)}
}

// record is a right one of a Kind, with so many entries.
func record(kind, n int) pack.Record {
	return pack.Record{Kind: kind, A: 500, B: 300, Log: entries(n)}
}

// part is a number of a thing, and what it may be.
type part[T any] struct {
	name   string
	lo, hi int
	at     func(*T) *int
}

var entryParts = []part[pack.Entry]{
	{"View", 0, 1 << 40, func(e *pack.Entry) *int { return &e.View }},
	{"Client", 1, 1 << 40, func(e *pack.Entry) *int { return &e.Client }},
	{"Request", 1, 1 << 40, func(e *pack.Entry) *int { return &e.Request }},
	{"Default", -1, 1 << 40, func(e *pack.Entry) *int { return &e.Delta.Default }},
	{"Closed", -1, 1 << 40, func(e *pack.Entry) *int { return &e.Delta.Closed }},
	{"Fuel", -1, 1 << 40, func(e *pack.Entry) *int { return &e.Delta.Fuel }},
	{"Stack", -1, 1 << 40, func(e *pack.Entry) *int { return &e.Delta.Stack }},
	{"the first ID", 1, 1 << 40, func(e *pack.Entry) *int { return &e.Delta.Put[0].ID }},
	{"the last ID", 1, 1 << 40, func(e *pack.Entry) *int { return &e.Delta.Put[2].ID }},
	{"the first Priority", 0, 1000, func(e *pack.Entry) *int { return &e.Delta.Put[0].Priority }},
	{"the last Priority", 0, 1000, func(e *pack.Entry) *int { return &e.Delta.Put[2].Priority }},
	{"the first Action", 0, 255, func(e *pack.Entry) *int { return &e.Delta.Put[0].Action }},
	{"the last Action", 0, 255, func(e *pack.Entry) *int { return &e.Delta.Put[2].Action }},
	{"the first Scope", 1, 65535, func(e *pack.Entry) *int { return &e.Delta.Put[0].Scope }},
	{"the last Scope", 1, 65535, func(e *pack.Entry) *int { return &e.Delta.Put[2].Scope }},
	{"the first of Drop", 1, 1 << 40, func(e *pack.Entry) *int { return &e.Delta.Drop[0] }},
	{"the middle one of Drop", 1, 1 << 40, func(e *pack.Entry) *int { return &e.Delta.Drop[1] }},
	{"the last of Drop", 1, 1 << 40, func(e *pack.Entry) *int { return &e.Delta.Drop[2] }},
}

var messageParts = []part[pack.Message]{
	{"View", 0, 1 << 40, func(m *pack.Message) *int { return &m.View }},
	{"From", 0, 6, func(m *pack.Message) *int { return &m.From }},
	{"To", 0, 6, func(m *pack.Message) *int { return &m.To }},
	{"Op", 0, 64, func(m *pack.Message) *int { return &m.Op }},
	{"Commit", 0, 64, func(m *pack.Message) *int { return &m.Commit }},
	{"Normal", 0, 1 << 40, func(m *pack.Message) *int { return &m.Normal }},
}

var recordParts = []part[pack.Record]{
	{"A", 0, 1 << 40, func(r *pack.Record) *int { return &r.A }},
	{"B", 0, 1 << 40, func(r *pack.Record) *int { return &r.B }},
}

// within are numbers that the part may be.
func (p part[T]) within() []int {
	return []int{p.lo, p.lo + 1, p.hi / 2, p.hi - 1, p.hi}
}

// without are numbers that the part may not be.
func (p part[T]) without() []int {
	list := []int{math.MinInt, -1 << 48, -1 << 40, -1 << 32, p.lo - 2, p.lo - 1, p.hi + 1, p.hi + 2, 1<<32 + p.lo, 1<<47 + p.hi, 1<<48 - 2, 1<<48 - 1, 1<<48 + p.lo, 1<<48 + p.hi, 1<<56 + p.hi, math.MaxInt - 1, math.MaxInt}
	return slices.DeleteFunc(list, func(n int) bool { return n >= p.lo && n <= p.hi })
}

// with is a thing but for one part.
func (p part[T]) with(thing T, n int) T {
	*p.at(&thing) = n
	return thing
}

// wrongEntries aren't right, each in another way.
func wrongEntries() []pack.Entry {
	list := []pack.Entry{{}}
	for _, p := range entryParts {
		for _, n := range p.without() {
			list = append(list, p.with(full(), n))
		}
	}
	for _, place := range []int{0, 1, 2} {
		for _, n := range []int{257, 258, 300, 1 << 10} {
			e := full()
			e.Delta.Put[place].Pattern = strings.Repeat("a", n)
			list = append(list, e)
		}
		e := full()
		e.Delta.Put[place] = rule.Rule{}
		list = append(list, e)
	}
	for _, n := range []int{17, 18, 32, 256, 257, 272} {
		e := full()
		e.Delta.Put = slices.Repeat([]rule.Rule{ruleOf(2)}, n)
		few := full()
		few.Delta.Drop = upTo(n)
		list = append(list, e, few)
	}
	for _, place := range []int{0, 15} {
		e, few := full(), full()
		e.Delta.Put, few.Delta.Drop = rulesOf(16), upTo(16)
		e.Delta.Put[place].Scope, few.Delta.Drop[place] = 0, 0
		list = append(list, e, few)
	}
	return list
}

// mayHave is how many entries a message of a Kind may have, for each Kind.
var mayHave = map[int][]int{1: {1}, 2: {0}, 3: {0}, 4: {0}, 5: {0, 1, 2, 63, 64}, 6: {0, 1, 2, 63, 64}, 7: {0}, 8: {0, 1, 2, 63, 64}}

// wrongMessages aren't right, each in another way.
func wrongMessages() []pack.Message {
	list := []pack.Message{{}}
	for _, p := range messageParts {
		for _, n := range p.without() {
			list = append(list, p.with(message(1, 1), n), p.with(message(3, 0), n), p.with(message(8, 2), n))
		}
	}
	kind := part[pack.Message]{"Kind", 1, 8, func(m *pack.Message) *int { return &m.Kind }}
	for _, n := range kind.without() {
		list = append(list, message(n, 0), message(n, 1), message(n, 2))
	}
	for n := range 9 {
		for _, many := range []int{0, 1, 2, 63, 64, 65, 66, 256, 257, 320} {
			if !slices.Contains(mayHave[n], many) {
				list = append(list, message(n, many))
			}
		}
	}
	for _, e := range wrongEntries() {
		for _, n := range []int{1, 5, 6, 8} {
			m := message(n, 0)
			m.Log = []pack.Entry{e}
			list = append(list, m)
		}
		first, last := message(5, 3), message(8, 3)
		first.Log[0], last.Log[2] = e, e
		list = append(list, first, last)
	}
	return list
}

// wrongRecords aren't right, each in another way.
func wrongRecords() []pack.Record {
	list := []pack.Record{{}}
	for _, p := range recordParts {
		for _, n := range p.without() {
			list = append(list, p.with(record(1, 0), n), p.with(record(2, 1), n), p.with(record(5, 0), n))
		}
	}
	kind := part[pack.Record]{"Kind", 1, 5, func(r *pack.Record) *int { return &r.Kind }}
	for _, n := range kind.without() {
		list = append(list, record(n, 0), record(n, 1))
	}
	for n := range 6 {
		for _, many := range []int{0, 1, 2, 3, 64} {
			if many != map[int]int{2: 1}[n] {
				list = append(list, record(n, many))
			}
		}
	}
	for _, e := range wrongEntries() {
		r := record(2, 0)
		r.Log = []pack.Entry{e}
		list = append(list, r)
	}
	return list
}

// rightEntries are right, each at another edge.
func rightEntries() []pack.Entry {
	list := []pack.Entry{plain(1, 1), full(), {Client: 1, Request: 1}}
	for _, p := range entryParts {
		for _, n := range p.within() {
			list = append(list, p.with(full(), n))
		}
	}
	for _, n := range []int{0, 1, 2, 15, 16} {
		e, few := full(), full()
		e.Delta.Put, few.Delta.Drop = rulesOf(n), upTo(n)
		list = append(list, e, few)
	}
	for _, pattern := range []string{"", "(", "a**", "\x00", "\xff\xfe", strings.Repeat("a", 255), strings.Repeat("a", 256), strings.Repeat("é", 128), strings.Repeat("\xff", 256)} {
		e := full()
		e.Delta.Put[1].Pattern = pattern
		list = append(list, e)
	}
	// What layer 7 says of a delta as a whole is not asked: an ID twice, one in both lists, numbers that no set may have.
	e := plain(1, 1)
	e.Delta.Put = slices.Repeat([]rule.Rule{ruleOf(2)}, 16)
	e.Delta.Drop = slices.Repeat([]int{2}, 16)
	e.Delta.Default, e.Delta.Closed, e.Delta.Fuel, e.Delta.Stack = 256, 256, 0, 1<<12+1
	return append(list, e)
}

// rightMessages are right, each at another edge.
func rightMessages() []pack.Message {
	list := []pack.Message{{Kind: 2}, {Kind: 8}, {Kind: 1, Log: entries(1)}}
	for _, p := range messageParts {
		for _, n := range p.within() {
			list = append(list, p.with(message(1, 1), n), p.with(message(3, 0), n), p.with(message(8, 2), n))
		}
	}
	for n, numbers := range mayHave {
		for _, many := range numbers {
			list = append(list, message(n, many))
		}
	}
	for _, e := range rightEntries() {
		m := message(6, 3)
		m.Log[1] = e
		list = append(list, m)
	}
	// How the numbers stand to one another is not asked.
	return append(list, pack.Message{Kind: 7, Commit: 64, Normal: 1 << 40, From: 3, To: 3}, pack.Message{Kind: 5, Op: 64})
}

// rightRecords are right, each at another edge.
func rightRecords() []pack.Record {
	list := []pack.Record{{Kind: 1}, {Kind: 5}, {Kind: 1, A: 5, B: 3}, {Kind: 1, A: 3, B: 5}, {Kind: 4, A: 1 << 40, B: 1 << 40}, {Kind: 2, Log: entries(1)}}
	for _, p := range recordParts {
		for _, n := range p.within() {
			list = append(list, p.with(record(1, 0), n), p.with(record(2, 1), n), p.with(record(5, 0), n))
		}
	}
	for n := 1; n <= 5; n++ {
		list = append(list, record(n, map[int]int{2: 1}[n]))
	}
	for _, e := range rightEntries() {
		r := record(2, 0)
		r.Log = []pack.Entry{e}
		list = append(list, r)
	}
	return list
}

// P11.1: each bound of a right entry, how many rules and numbers it may have, each way in which a rule is not right.
func TestEntryRight(t *testing.T) {
	for _, e := range rightEntries() {
		if !e.Right() {
			t.Errorf("not right: %+v", e)
		}
	}
	for _, e := range wrongEntries() {
		if e.Right() {
			t.Errorf("right: %+v", e)
		}
	}
}

// P11.1: each bound of a right message, how many entries each Kind may have, and that they are right.
func TestMessageRight(t *testing.T) {
	for _, m := range rightMessages() {
		if !m.Right() {
			t.Errorf("not right: %+v", m)
		}
	}
	for _, m := range wrongMessages() {
		if m.Right() {
			t.Errorf("right: %+v", m)
		}
	}
}

// P11.1: so for a record.
func TestRecordRight(t *testing.T) {
	for _, r := range rightRecords() {
		if !r.Right() {
			t.Errorf("not right: %+v", r)
		}
	}
	for _, r := range wrongRecords() {
		if r.Right() {
			t.Errorf("right: %+v", r)
		}
	}
}

// P11.1: nil and empty lists are one.
func TestRightEmpty(t *testing.T) {
	e := plain(1, 1)
	e.Delta.Put, e.Delta.Drop = []rule.Rule{}, []int{}
	if !e.Right() || !(pack.Message{Kind: 2, Log: []pack.Entry{}}).Right() || !(pack.Record{Kind: 1, Log: []pack.Entry{}}).Right() {
		t.Error("not right")
	}
	if (pack.Message{Kind: 1, Log: []pack.Entry{}}).Right() || (pack.Record{Kind: 2, Log: []pack.Entry{}}).Right() {
		t.Error("right")
	}
}

// unlike are entries that part from full in one thing alone.
func unlike() []pack.Entry {
	var list []pack.Entry
	for _, p := range entryParts {
		e := full()
		was := *p.at(&e)
		for _, n := range []int{math.MinInt, -1, 0, was - 1, was + 1, was + 1<<8, was + 1<<16, was + 1<<32, -was, 1 << 40, math.MaxInt} {
			list = append(list, p.with(full(), n))
		}
	}
	for i, pattern := range []string{"", "a", full().Delta.Put[0].Pattern + "a", strings.ToUpper(full().Delta.Put[1].Pattern)} {
		e := full()
		e.Delta.Put[i%3].Pattern = pattern
		list = append(list, e)
	}
	for range 10 {
		list = append(list, full())
	}
	some := list[len(list)-10:]
	some[0].Delta.Put = nil
	some[1].Delta.Put = rulesOf(2)
	some[2].Delta.Put = rulesOf(4)
	some[3].Delta.Drop = nil
	some[4].Delta.Drop = []int{70, 80}
	some[5].Delta.Drop = []int{80, 90}
	some[6].Delta.Drop = []int{70, 80, 90, 90}
	slices.Reverse(some[7].Delta.Put)
	slices.Reverse(some[8].Delta.Drop)
	some[9] = plain(5, 9)
	return list
}

// checkSame holds what Same tells, whichever of the two is the first.
func checkSame(t *testing.T, a, b []pack.Entry, want bool) {
	t.Helper()
	if pack.Same(a, b) != want || pack.Same(b, a) != want {
		t.Errorf("not %v: %+v %+v", want, a, b)
	}
}

// P11.1: lists that part in one number, text, rule, number of Drop, or order, at each place.
func TestSameUnlike(t *testing.T) {
	for _, e := range unlike() {
		checkSame(t, []pack.Entry{full()}, []pack.Entry{e}, false)
		checkSame(t, []pack.Entry{e}, []pack.Entry{e}, true)
		for place := range 3 {
			a, b := entries(3), entries(3)
			a[place], b[place] = full(), e
			checkSame(t, a, b, false)
			b[place] = full()
			checkSame(t, a, b, true)
		}
	}
}

// P11.1: lists that part in length or order, and empty ones.
func TestSameLength(t *testing.T) {
	for n := range 20 {
		for many := range 20 {
			checkSame(t, entries(n), entries(many), n == many)
		}
	}
	checkSame(t, nil, []pack.Entry{}, true)
	checkSame(t, nil, []pack.Entry{{}}, false)
	checkSame(t, []pack.Entry{{}}, []pack.Entry{{}}, true)
	checkSame(t, []pack.Entry{{}}, []pack.Entry{{}, {}}, false)
	checkSame(t, entries(300), entries(300), true)
	turned := entries(3)
	slices.Reverse(turned)
	checkSame(t, entries(3), turned, false)
	a, b := plain(1, 1), plain(1, 1)
	a.Delta.Put, a.Delta.Drop = []rule.Rule{}, []int{}
	checkSame(t, []pack.Entry{a}, []pack.Entry{b}, true)
}

// P11.1: entries that aren't right are the same, or not, as others are.
func TestSameWrong(t *testing.T) {
	list, again := wrongEntries(), wrongEntries()
	checkSame(t, list, again, true)
	for i := range list {
		for j := range again {
			if pack.Same(list[i:i+1], again[j:j+1]) != reflect.DeepEqual(list[i], again[j]) {
				t.Fatalf("%d %d: %+v %+v", i, j, list[i], again[j])
			}
		}
	}
}

// raw is what things are in bytes by the document, right or not; it takes only numbers from -1 to 2^48 - 2.
func raw(parts ...any) []byte {
	var b []byte
	for _, p := range parts {
		switch p := p.(type) {
		case []byte:
			b = append(b, p...)
		case int:
			b = append(b, binary.BigEndian.AppendUint64(nil, uint64(p)+1)[2:]...)
		case string:
			b = append(b, raw(len(p), []byte(p))...)
		case rule.Rule:
			b = append(b, raw(p.ID, p.Priority, p.Action, p.Scope, p.Pattern)...)
		case rule.Delta:
			b = append(b, raw(p.Default, p.Closed, p.Fuel, p.Stack, len(p.Put), each(p.Put), len(p.Drop), each(p.Drop))...)
		case pack.Entry:
			b = append(b, raw(p.View, p.Client, p.Request, p.Delta)...)
		case pack.Message:
			b = append(b, raw(p.Kind, p.View, p.From, p.To, p.Op, p.Commit, p.Normal, len(p.Log), each(p.Log))...)
		case pack.Record:
			b = append(b, raw(p.Kind, p.A, p.B, len(p.Log), each(p.Log))...)
		default:
			panic("no such thing")
		}
	}
	return b
}

// each is a list's parts in bytes.
func each[T any](list []T) []byte {
	var b []byte
	for _, p := range list {
		b = append(b, raw(p)...)
	}
	return b
}

// hexed is bytes, told as text.
func hexed(t *testing.T, s ...string) []byte {
	t.Helper()
	b, err := hex.DecodeString(strings.Join(strings.Fields(strings.Join(s, "")), ""))
	if err != nil {
		t.Fatal(err)
	}
	return b
}

// sameMessage takes nil and empty lists as one.
func sameMessage(a, b pack.Message) bool {
	return slices.Equal([]int{a.Kind, a.View, a.From, a.To, a.Op, a.Commit, a.Normal}, []int{b.Kind, b.View, b.From, b.To, b.Op, b.Commit, b.Normal}) && sameEntries(a.Log, b.Log)
}

// sameRecord takes nil and empty lists as one.
func sameRecord(a, b pack.Record) bool {
	return a.Kind == b.Kind && a.A == b.A && a.B == b.B && sameEntries(a.Log, b.Log)
}

// sameEntries looks at all parts of entries but for whether empty lists are nil.
func sameEntries(a, b []pack.Entry) bool {
	return slices.EqualFunc(a, b, func(a, b pack.Entry) bool { return reflect.DeepEqual(emptied(a), emptied(b)) })
}

// emptied is an entry whose empty lists are nil.
func emptied(e pack.Entry) pack.Entry {
	if len(e.Delta.Put) == 0 {
		e.Delta.Put = nil
	}
	if len(e.Delta.Drop) == 0 {
		e.Delta.Drop = nil
	}
	return e
}

// checkMessage holds a right message and its bytes against each other.
func checkMessage(t *testing.T, m pack.Message, want []byte) {
	t.Helper()
	if b, e := pack.Encode(m); e != api.OK || !bytes.Equal(b, want) {
		t.Fatalf("%+v: %x %d, not %x", m, b, e, want)
	}
	if got, e := pack.Decode(want); e != api.OK || !sameMessage(got, m) {
		t.Fatalf("%x: %+v %d, not %+v", want, got, e, m)
	}
}

// checkRecord holds a right record and its bytes against each other.
func checkRecord(t *testing.T, r pack.Record, want []byte) {
	t.Helper()
	if b, e := pack.EncodeRecord(r); e != api.OK || !bytes.Equal(b, want) {
		t.Fatalf("%+v: %x %d, not %x", r, b, e, want)
	}
	if got, e := pack.DecodeRecord(want); e != api.OK || !sameRecord(got, r) {
		t.Fatalf("%x: %+v %d, not %+v", want, got, e, r)
	}
}

// checkNoMessage holds that bytes are no right message's.
func checkNoMessage(t *testing.T, b []byte) {
	t.Helper()
	if m, e := pack.Decode(b); e != api.ErrForm || !reflect.DeepEqual(m, pack.Message{}) {
		t.Fatalf("%d bytes, %.300x: %+v %d", len(b), b, m, e)
	}
}

// checkNoRecord holds that bytes are no right record's.
func checkNoRecord(t *testing.T, b []byte) {
	t.Helper()
	if r, e := pack.DecodeRecord(b); e != api.ErrForm || !reflect.DeepEqual(r, pack.Record{}) {
		t.Fatalf("%d bytes, %.300x: %+v %d", len(b), b, r, e)
	}
}
