package pack_test

import (
	"bytes"
	"slices"
	"strings"
	"testing"

	"colander/api"
	"colander/pack"
	"colander/rule"
)

// The chapter's example.
func TestExamples(t *testing.T) {
	checkRecord(t, pack.Record{Kind: 1, A: 5, B: 3}, hexed(t, "000000000002 000000000006 000000000004 000000000001"))
}

// filled is an entry with every part filled, and its bytes.
func filled(t *testing.T) (pack.Entry, []byte) {
	t.Helper()
	e := pack.Entry{View: 255, Client: 1, Request: 65535, Delta: rule.Delta{
		Default: -1, Closed: 254, Fuel: 1 << 40, Stack: 0,
		Put:  []rule.Rule{{ID: 0x23456789a, Priority: 1000, Action: 255, Scope: 65535, Pattern: "a\xff+"}, {ID: 1 << 40, Priority: 1, Action: 0, Scope: 2}},
		Drop: []int{9, 0xabcdef1234},
	}}
	return e, hexed(t,
		"000000000100 000000000002 000000010000",              // View, Client, Request
		"000000000000 0000000000ff 010000000001 000000000001", // Default, Closed, Fuel, Stack
		"000000000003", // two rules
		"00023456789b 0000000003e9 000000000100 000000010000 000000000004 61ff2b",
		"010000000001 000000000002 000000000001 000000000003 000000000001",
		"000000000003 00000000000a 00abcdef1235", // two numbers
	)
}

// P11.2: messages, byte by byte.
func TestMessageBytes(t *testing.T) {
	e, b := filled(t)
	checkMessage(t, pack.Message{Kind: 2}, hexed(t, "000000000003", strings.Repeat("000000000001", 7)))
	checkMessage(t, pack.Message{Kind: 7, View: 1, From: 2, To: 3, Op: 4, Commit: 5, Normal: 6},
		hexed(t, "000000000008 000000000002 000000000003 000000000004 000000000005 000000000006 000000000007 000000000001"))
	checkMessage(t, pack.Message{Kind: 1, View: 1 << 40, From: 6, To: 5, Op: 64, Commit: 63, Normal: 0x123456789a, Log: []pack.Entry{e}},
		slices.Concat(hexed(t, "000000000002 010000000001 000000000007 000000000006 000000000041 000000000040 00123456789b 000000000002"), b))
	checkMessage(t, pack.Message{Kind: 8, View: 0xfe, Log: []pack.Entry{e, {Client: 2, Request: 3}, e}},
		slices.Concat(hexed(t, "000000000009 0000000000ff", strings.Repeat("000000000001", 5), "000000000004"), b,
			hexed(t, "000000000001 000000000003 000000000004", strings.Repeat("000000000001", 6)), b))
}

// P11.2: records, byte by byte.
func TestRecordBytes(t *testing.T) {
	e, b := filled(t)
	checkRecord(t, pack.Record{Kind: 5, A: 1 << 40, B: 0xffff}, hexed(t, "000000000006 010000000001 000000010000 000000000001"))
	checkRecord(t, pack.Record{Kind: 3}, hexed(t, "000000000004 000000000001 000000000001 000000000001"))
	checkRecord(t, pack.Record{Kind: 2, A: 3, B: 4, Log: []pack.Entry{e}}, slices.Concat(hexed(t, "000000000003 000000000004 000000000005 000000000002"), b))
}

// fits tells whether a message's bytes are no more than MaxFrame.
func fits(m pack.Message) bool { return len(raw(m)) <= 1<<16 }

// P11.2: what is right is written as the document says, and read again.
func TestRightBytes(t *testing.T) {
	for _, m := range rightMessages() {
		if fits(m) {
			checkMessage(t, m, raw(m))
		}
	}
	for _, r := range rightRecords() {
		checkRecord(t, r, raw(r))
	}
}

// P11.2: ErrForm, and nothing beside it, of what isn't right.
func TestEncodeWrong(t *testing.T) {
	for _, m := range wrongMessages() {
		if b, e := pack.Encode(m); e != api.ErrForm || len(b) != 0 {
			t.Fatalf("%+v: %x %d", m, b, e)
		}
	}
	for _, r := range wrongRecords() {
		if b, e := pack.EncodeRecord(r); e != api.ErrForm || len(b) != 0 {
			t.Fatalf("%+v: %x %d", r, b, e)
		}
	}
}

// sized is a right message of just so many bytes, from 60000 to 66000 of them.
func sized(t *testing.T, n int) pack.Message {
	t.Helper()
	m := message(5, 0)
	for len(raw(m)) < n {
		e := plain(1, len(m.Log)+1)
		for len(e.Delta.Put) < 12 {
			e.Delta.Put = append(e.Delta.Put, rule.Rule{ID: 1, Scope: 1, Pattern: strings.Repeat("a", 200)})
		}
		m.Log = append(m.Log, e)
	}
	for len(raw(m)) > n {
		last := &m.Log[len(m.Log)-1].Delta
		over := len(raw(m)) - n
		if cut := len(last.Put) - 1; over >= 230 && cut > 0 {
			last.Put = last.Put[:cut]
			continue
		}
		first := &m.Log[0].Delta
		first.Put[0].Pattern = first.Put[0].Pattern[:max(0, 200-over)]
		first.Put[1].Pattern = first.Put[1].Pattern[:200-max(0, over-200)]
	}
	if len(raw(m)) != n || !m.Right() {
		t.Fatalf("%d bytes, not %d", len(raw(m)), n)
	}
	return m
}

// P11.2: bytes up to MaxFrame are written and read; ErrBig of a message, and ErrForm of its bytes, just past it.
func TestBig(t *testing.T) {
	for _, n := range []int{60000, 65000, 1<<16 - 2, 1<<16 - 1, 1 << 16} {
		m := sized(t, n)
		checkMessage(t, m, raw(m))
	}
	for _, n := range []int{1<<16 + 1, 1<<16 + 2, 1<<16 + 6, 66000} {
		m := sized(t, n)
		checkTooBig(t, m)
		checkNoMessage(t, raw(m))
		checkNoMessage(t, raw(m)[:1<<16])
	}
}

// checkTooBig holds that a message has ErrBig, and no bytes.
func checkTooBig(t *testing.T, m pack.Message) {
	t.Helper()
	if b, e := pack.Encode(m); e != api.ErrBig || len(b) != 0 {
		t.Fatalf("%d bytes: %d bytes, %d", len(raw(m)), len(b), e)
	}
}

// largest is the right message with the most bytes.
func largest() pack.Message {
	e := pack.Entry{View: 1 << 40, Client: 1 << 40, Request: 1 << 40, Delta: rule.Delta{Drop: slices.Repeat([]int{1 << 40}, 16)}}
	e.Delta.Put = slices.Repeat([]rule.Rule{{ID: 1 << 40, Priority: 1000, Action: 255, Scope: 65535, Pattern: strings.Repeat("\xff", 256)}}, 16)
	return pack.Message{Kind: 8, View: 1 << 40, From: 6, To: 6, Op: 64, Commit: 64, Normal: 1 << 40, Log: slices.Repeat([]pack.Entry{e}, 64)}
}

// P11.2: ErrForm ahead of ErrBig.
func TestWrongAndBig(t *testing.T) {
	checkTooBig(t, largest())
	checkNoMessage(t, raw(largest()))
	for _, change := range []func(*pack.Message){
		func(m *pack.Message) { m.Kind = 1 },
		func(m *pack.Message) { m.Kind = 7 },
		func(m *pack.Message) { m.Kind = 9 },
		func(m *pack.Message) { m.Normal++ },
		func(m *pack.Message) { m.To = 7 },
		func(m *pack.Message) { m.Op = -1 },
		func(m *pack.Message) { m.Log = append(m.Log, plain(1, 1)) },
		func(m *pack.Message) { m.Log[63].Client = 0 },
		func(m *pack.Message) { m.Log[63].Delta.Drop = append(slices.Clone(m.Log[63].Delta.Drop), 0) },
		func(m *pack.Message) { m.Log[0].Delta.Put = slices.Repeat(m.Log[0].Delta.Put, 2) },
		func(m *pack.Message) { m.Log = slices.Repeat(m.Log, 20) },
	} {
		m := largest()
		change(&m)
		if b, e := pack.Encode(m); e != api.ErrForm || len(b) != 0 {
			t.Errorf("%d bytes, %d", len(b), e)
		}
	}
}

// P11.2: the largest record is written and read; one with more is ErrForm, however large it would be.
func TestLargeRecord(t *testing.T) {
	r := pack.Record{Kind: 2, A: 1 << 40, B: 1 << 40, Log: largest().Log[:1]}
	checkRecord(t, r, raw(r))
	for _, r := range []pack.Record{{Kind: 2, Log: largest().Log}, {Kind: 2, Log: largest().Log[:2]}, {Kind: 1, Log: largest().Log}} {
		if b, e := pack.EncodeRecord(r); e != api.ErrForm || len(b) != 0 {
			t.Errorf("%d bytes, %d", len(b), e)
		}
		checkNoRecord(t, raw(r))
	}
}

// P11.2: bytes that are cut off at each place, or have some more ahead of them or behind them.
func TestCutAndMore(t *testing.T) {
	e, _ := filled(t)
	for _, m := range []pack.Message{{Kind: 2}, {Kind: 1, Log: []pack.Entry{e}}, {Kind: 8, Log: []pack.Entry{e, plain(1, 1), full()}}} {
		b := raw(m)
		for n := range b {
			checkNoMessage(t, b[:n])
			checkNoMessage(t, b[n+1:])
		}
		for _, more := range [][]byte{{0}, {1}, {255}, make([]byte, 6), raw(0), raw(1), b, make([]byte, 1<<16)} {
			checkNoMessage(t, slices.Concat(b, more))
			checkNoMessage(t, slices.Concat(more, b))
		}
	}
	for _, r := range []pack.Record{{Kind: 1}, {Kind: 2, Log: []pack.Entry{e}}, {Kind: 2, Log: entries(1)}} {
		b := raw(r)
		for n := range b {
			checkNoRecord(t, b[:n])
			checkNoRecord(t, b[n+1:])
		}
		for _, more := range [][]byte{{0}, {1}, {255}, make([]byte, 6), raw(0), raw(1), b, make([]byte, 1<<16)} {
			checkNoRecord(t, slices.Concat(b, more))
			checkNoRecord(t, slices.Concat(more, b))
		}
	}
}

// P11.2: as many bytes as MaxFrame and more, of which the first ones are a right message's or record's.
func TestLongBytes(t *testing.T) {
	for _, n := range []int{1<<16 - 1, 1 << 16, 1<<16 + 1, 1 << 17, 1 << 20} {
		for _, head := range [][]byte{nil, raw(message(2, 0)), raw(message(8, 3)), raw(record(1, 0)), raw(record(2, 1))} {
			for _, c := range []byte{0, 1, 255} {
				b := append(slices.Clone(head), bytes.Repeat([]byte{c}, n-len(head))...)
				checkNoMessage(t, b)
				checkNoRecord(t, b)
			}
		}
	}
}

// lies are numbers of parts or bytes that aren't so many, told where there are n.
func lies(n int) []int {
	list := []int{-1, 0, 1, n - 1, n + 1, n + 2, 2*n + 1, n + 1<<8, n + 1<<16, n + 1<<32, n + 1<<40, 1<<16 - 1, 1 << 16, 1<<31 - 1, 1 << 31, 1<<32 - 1, 1 << 32, 1 << 40, 1<<47 - 1, 1<<48 - 2}
	return slices.DeleteFunc(list, func(l int) bool { return l == n || l < -1 })
}

// P11.2: what says more, or fewer, texts' bytes, rules, numbers or entries than there are.
func TestLies(t *testing.T) {
	head := raw(8, 1, 2, 3, 4, 5, 6)
	rules, drop := rulesOf(2), []int{7, 8}
	start := raw(1, 2, 3, 4, 5, 6, 7)
	whole := func(many, puts, text, drops int) []byte {
		one := raw(rules[1].ID, rules[1].Priority, rules[1].Action, rules[1].Scope, text, []byte(rules[1].Pattern))
		return raw(many, start, puts, rules[0], one, drops, each(drop))
	}
	size := len(rules[1].Pattern)
	right := whole(1, 2, size, 2)
	if _, e := pack.Decode(raw(head, right)); e != api.OK {
		t.Fatal(e)
	}
	if _, e := pack.DecodeRecord(raw(2, 0, 0, right)); e != api.OK {
		t.Fatal(e)
	}
	check := func(b []byte) {
		t.Helper()
		checkNoMessage(t, raw(head, b))
		checkNoMessage(t, raw(1, head[6:], b))
		checkNoRecord(t, raw(2, 0, 0, b))
	}
	for _, lie := range lies(1) {
		check(whole(lie, 2, size, 2))
	}
	for _, lie := range lies(2) {
		check(whole(1, lie, size, 2))
		check(whole(1, 2, size, lie))
	}
	for _, lie := range lies(size) {
		check(whole(1, 2, lie, 2))
	}
}

// P11.2: lists and texts that are empty and say that they have parts, or fewer than none.
func TestEmptyLies(t *testing.T) {
	head := raw(8, 1, 2, 3, 4, 5, 6)
	checkMessage(t, pack.Message{Kind: 8, View: 1, From: 2, To: 3, Op: 4, Commit: 5, Normal: 6}, raw(head, 0))
	numbers := raw(1, 2, 3, -1, -1, -1, -1)
	for _, lie := range lies(0) {
		checkNoMessage(t, raw(head, lie))
		checkNoRecord(t, raw(1, 5, 3, lie))
		checkNoMessage(t, raw(head, 1, numbers, lie, 0))
		checkNoMessage(t, raw(head, 1, numbers, 0, lie))
		checkNoMessage(t, raw(head, 1, numbers, 1, 1, 1, 1, 1, lie, 0))
		checkNoRecord(t, raw(2, 0, 0, 1, numbers, lie, 0))
		checkNoRecord(t, raw(2, 0, 0, 1, numbers, 0, lie))
		checkNoRecord(t, raw(2, 0, 0, 1, numbers, 1, 1, 1, 1, 1, lie, 0))
	}
}

// told tells whether all numbers of entries have bytes of their own.
func told(log []pack.Entry, numbers ...int) bool {
	for _, e := range log {
		numbers = append(numbers, e.View, e.Client, e.Request, e.Delta.Default, e.Delta.Closed, e.Delta.Fuel, e.Delta.Stack)
		numbers = append(numbers, e.Delta.Drop...)
		for _, r := range e.Delta.Put {
			numbers = append(numbers, r.ID, r.Priority, r.Action, r.Scope)
		}
	}
	return slices.Min(numbers) >= -1 && slices.Max(numbers) <= 1<<48-2
}

// P11.2: the bytes of what isn't right: a number out of its range, a rule that isn't right, too many parts.
func TestDecodeWrong(t *testing.T) {
	many := 0
	for _, m := range wrongMessages() {
		if told(m.Log, m.Kind, m.View, m.From, m.To, m.Op, m.Commit, m.Normal) {
			checkNoMessage(t, raw(m))
			many++
		}
	}
	for _, r := range wrongRecords() {
		if told(r.Log, r.Kind, r.A, r.B) {
			checkNoRecord(t, raw(r))
			many++
		}
	}
	if many < 1000 {
		t.Errorf("%d only", many)
	}
}

// P11.2: a record's bytes are no message's, nor a message's a record's, but where they are both.
func TestOtherKind(t *testing.T) {
	for _, m := range rightMessages() {
		checkNoRecord(t, raw(m))
	}
	for _, r := range rightRecords() {
		checkNoMessage(t, raw(r))
	}
	checkNoMessage(t, nil)
	checkNoMessage(t, []byte{})
	checkNoRecord(t, nil)
	checkNoRecord(t, []byte{})
}
