package rule_test

import (
	"math"
	"slices"
	"strings"
	"testing"

	"colander/api"
	"colander/rule"
)

const most = api.MaxNumber

// good is a right rule of an ID.
func good(id int) rule.Rule {
	return rule.Rule{ID: id, Priority: 10, Action: 9, Scope: 1, Pattern: "a+b"}
}

// rules are right ones of these IDs.
func rules(ids ...int) []rule.Rule {
	var list []rule.Rule
	for _, id := range ids {
		list = append(list, good(id))
	}
	return list
}

// upTo are the numbers from 1 to n.
func upTo(n int) []int {
	var list []int
	for i := range n {
		list = append(list, i+1)
	}
	return list
}

// with is the first set with these rules.
func with(list ...rule.Rule) rule.Set {
	s := rule.First()
	s.Rules = list
	return s
}

// same takes nil and empty lists as one.
func same(s, o rule.Set) bool {
	return s.Default == o.Default && s.Closed == o.Closed && s.Fuel == o.Fuel && s.Stack == o.Stack && slices.Equal(s.Rules, o.Rules)
}

// sameDelta takes nil and empty lists as one.
func sameDelta(d, o rule.Delta) bool {
	return d.Default == o.Default && d.Closed == o.Closed && d.Fuel == o.Fuel && d.Stack == o.Stack && slices.Equal(d.Put, o.Put) && slices.Equal(d.Drop, o.Drop)
}

// numbers is a delta that changes numbers alone.
func numbers(def, closed, fuel, stack int) rule.Delta {
	return rule.Delta{Default: def, Closed: closed, Fuel: fuel, Stack: stack}
}

// put is a delta that puts and drops alone.
func put(list []rule.Rule, drop ...int) rule.Delta {
	return rule.Delta{Default: -1, Closed: -1, Fuel: -1, Stack: -1, Put: list, Drop: drop}
}

// bound is a part of a rule or set with the numbers from lo to hi that it may be.
type bound struct {
	name   string
	lo, hi int
}

// around are numbers within the bounds, and numbers that aren't.
func (b bound) around() (within, without []int) {
	within = []int{b.lo, b.lo + 1, b.hi / 2, b.hi - 1, b.hi}
	without = []int{math.MinInt, -1 << 40, -1 << 32, b.lo - 2, b.lo - 1, b.hi + 1, b.hi + 2, 1<<32 + b.lo, 1<<48 + b.hi, math.MaxInt}
	return within, slices.DeleteFunc(without, func(n int) bool { return n >= b.lo && n <= b.hi })
}

var ruleBounds = []bound{{"ID", 1, 1 << 40}, {"Priority", 0, 1000}, {"Action", 0, 255}, {"Scope", 1, 65535}}

// withPart is a right rule but for one part.
func withPart(name string, n int) rule.Rule {
	r := good(5)
	switch name {
	case "ID":
		r.ID = n
	case "Priority":
		r.Priority = n
	case "Action":
		r.Action = n
	case "Scope":
		r.Scope = n
	}
	return r
}

var setBounds = []bound{{"Default", 0, 255}, {"Closed", 0, 255}, {"Fuel", 1, 1 << 20}, {"Stack", 0, 1 << 12}}

// withNumber is a right set but for one number.
func withNumber(name string, n int) rule.Set {
	s := with(rules(3, 7)...)
	switch name {
	case "Default":
		s.Default = n
	case "Closed":
		s.Closed = n
	case "Fuel":
		s.Fuel = n
	case "Stack":
		s.Stack = n
	}
	return s
}

// changing is a delta that changes one number alone.
func changing(name string, n int) rule.Delta {
	d := put(nil)
	switch name {
	case "Default":
		d.Default = n
	case "Closed":
		d.Closed = n
	case "Fuel":
		d.Fuel = n
	case "Stack":
		d.Stack = n
	}
	return d
}

// wrongRules aren't right, each in another way.
func wrongRules() []rule.Rule {
	long := good(5)
	long.Pattern = strings.Repeat("a", 257)
	list := []rule.Rule{{}, long}
	for _, b := range ruleBounds {
		_, without := b.around()
		for _, n := range without {
			list = append(list, withPart(b.name, n))
		}
	}
	return list
}

// wrongSets aren't right, each in another way.
func wrongSets() []rule.Set {
	list := []rule.Set{
		{}, with(rules(upTo(17)...)...), with(rules(upTo(300)...)...),
		with(rules(1, 1)...), with(rules(2, 1)...), with(rules(1, 2, 2)...), with(rules(1, 3, 2)...), with(rules(1, 2, 1)...), with(rules(5, 6, 7, 1)...),
	}
	for _, b := range setBounds {
		_, without := b.around()
		for _, n := range without {
			list = append(list, withNumber(b.name, n))
		}
	}
	for _, r := range wrongRules() {
		list = append(list, with(r), with(r, good(most)), with(good(1), r), with(good(1), good(2), r))
	}
	return list
}

// P7.1: each bound of a right rule.
func TestRuleRight(t *testing.T) {
	for _, b := range ruleBounds {
		within, _ := b.around()
		for _, n := range within {
			if r := withPart(b.name, n); !r.Right() {
				t.Errorf("not right: %+v", r)
			}
		}
	}
	for _, r := range wrongRules() {
		if r.Right() {
			t.Errorf("right: %+v", r)
		}
	}
	for _, r := range []rule.Rule{{ID: 1, Scope: 1}, {ID: 1 << 40, Priority: 1000, Action: 255, Scope: 65535, Pattern: strings.Repeat("z", 256)}} {
		if !r.Right() {
			t.Errorf("not right: %+v", r)
		}
	}
}

// P7.1: a pattern's bytes are counted, not its characters, and what it says is no matter.
func TestRulePattern(t *testing.T) {
	for pattern, want := range map[string]bool{
		"": true, "(": true, "a**": true, "\x00": true, "\xff\xfe": true,
		strings.Repeat("a", 255): true, strings.Repeat("a", 256): true, strings.Repeat("a", 257): false, strings.Repeat("(", 256): true,
		strings.Repeat("é", 128): true, strings.Repeat("é", 129): false, strings.Repeat("é", 128) + "a": false,
		strings.Repeat("😀", 64): true, strings.Repeat("😀", 65): false, strings.Repeat("\xff", 256): true, strings.Repeat("\xff", 257): false,
		strings.Repeat("a", 512): false, strings.Repeat("a", 1<<16): false,
	} {
		r := good(1)
		r.Pattern = pattern
		if r.Right() != want {
			t.Errorf("%d bytes, %q: %v", len(pattern), pattern[:min(9, len(pattern))], !want)
		}
	}
}

// P7.1: each bound of a right set.
func TestSetRight(t *testing.T) {
	for _, b := range setBounds {
		within, _ := b.around()
		for _, n := range within {
			if s := withNumber(b.name, n); !s.Right() {
				t.Errorf("not right: %+v", s)
			}
		}
	}
	for _, s := range wrongSets() {
		if s.Right() {
			t.Errorf("right: %+v", s)
		}
	}
	for _, s := range []rule.Set{
		{Fuel: 1}, {Default: 255, Closed: 255, Fuel: 1 << 20, Stack: 1 << 12}, {Fuel: 1, Rules: []rule.Rule{}},
		with(good(1)), with(good(most)), with(rules(1, 2, 3)...), with(rules(1, most)...), with(rules(7, 100, 1<<32, 1<<32+1)...), with(rules(upTo(16)...)...),
	} {
		if !s.Right() {
			t.Errorf("not right: %+v", s)
		}
	}
}

// P7.1: a wrong rule, or an ID that doesn't rise, at each place of a full set.
func TestEachPlace(t *testing.T) {
	for place := range 16 {
		s := with(rules(upTo(16)...)...)
		s.Rules[place].Action = 256
		if s.Right() {
			t.Errorf("a wrong rule at %d is right", place)
		}
		s = with(rules(upTo(16)...)...)
		if place > 0 {
			s.Rules[place].ID--
		} else {
			s.Rules[place].ID++
		}
		if s.Right() {
			t.Errorf("an ID twice at %d is right", place)
		}
	}
}

// P7.1.
func TestFirst(t *testing.T) {
	want := rule.Set{Default: 0, Closed: 255, Fuel: 10000, Stack: 500}
	if s := rule.First(); !same(s, want) || !s.Right() {
		t.Errorf("%+v", s)
	}
}

// P7.1: a rule that is there, and one that isn't; of a set that isn't right, too.
func TestRule(t *testing.T) {
	named := func(id int, pattern string) rule.Rule {
		r := good(id)
		r.Pattern = pattern
		return r
	}
	s := with(named(1, "a"), named(4, "b"), named(most, "c"))
	odd := rule.Set{Rules: []rule.Rule{named(9, "a"), named(3, "b"), named(9, "c"), named(-2, "d"), named(3, "e"), {}, named(0, "f"), named(math.MinInt, "g")}}
	for _, c := range []struct {
		s       rule.Set
		id      int
		pattern string
		ok      bool
	}{
		{s, 1, "a", true}, {s, 4, "b", true}, {s, most, "c", true},
		{s, 0, "", false}, {s, -1, "", false}, {s, 2, "", false}, {s, 3, "", false}, {s, 5, "", false}, {s, most + 1, "", false}, {s, math.MinInt, "", false}, {s, math.MaxInt, "", false}, {s, 1<<32 + 1, "", false},
		{rule.First(), 0, "", false}, {rule.First(), 1, "", false}, {rule.Set{}, 0, "", false},
		{odd, 9, "a", true}, {odd, 3, "b", true}, {odd, -2, "d", true}, {odd, math.MinInt, "g", true}, {odd, 1, "", false}, {odd, 2, "", false},
	} {
		want := rule.Rule{}
		if c.ok {
			want = named(c.id, c.pattern)
		}
		if r, ok := c.s.Rule(c.id); r != want || ok != c.ok {
			t.Errorf("%d: %+v %v", c.id, r, ok)
		}
	}
	if r, ok := odd.Rule(0); r != (rule.Rule{}) || !ok {
		t.Errorf("the empty rule: %+v %v", r, ok)
	}
}

// checkApply holds what Apply answers against the set that is due.
func checkApply(t *testing.T, s rule.Set, d rule.Delta, want rule.Set) {
	t.Helper()
	got, e := rule.Apply(s, d)
	if e != api.OK || !same(got, want) {
		t.Fatalf("%+v to %+v: %+v %d, not %+v", d, s, got, e, want)
	}
	if !got.Right() {
		t.Fatalf("%+v to %+v: %+v isn't right", d, s, got)
	}
}

// checkRefused holds what Apply answers against an error, with nothing beside it.
func checkRefused(t *testing.T, s rule.Set, d rule.Delta, want api.Errno) {
	t.Helper()
	if got, e := rule.Apply(s, d); e != want || !same(got, rule.Set{}) {
		t.Fatalf("%+v to %+v: %+v %d, not %d", d, s, got, e, want)
	}
}

// P7.2: the example.
func TestExample(t *testing.T) {
	d := numbers(-1, 7, -1, -1)
	d.Put = rules(3)
	checkApply(t, rule.First(), d, rule.Set{Default: 0, Closed: 7, Fuel: 10000, Stack: 500, Rules: rules(3)})
}

// P7.2: each of the four numbers, with and without -1.
func TestNumbers(t *testing.T) {
	s := rule.Set{Default: 11, Closed: 12, Fuel: 13, Stack: 14, Rules: rules(1, 9)}
	for choice := range 16 {
		d, want := put(nil), s
		if choice&1 != 0 {
			d.Default, want.Default = 21, 21
		}
		if choice&2 != 0 {
			d.Closed, want.Closed = 22, 22
		}
		if choice&4 != 0 {
			d.Fuel, want.Fuel = 23, 23
		}
		if choice&8 != 0 {
			d.Stack, want.Stack = 24, 24
		}
		checkApply(t, s, d, want)
	}
	checkApply(t, s, numbers(0, 0, 1, 0), rule.Set{Fuel: 1, Rules: s.Rules})
	checkApply(t, s, numbers(255, 255, 1<<20, 1<<12), rule.Set{Default: 255, Closed: 255, Fuel: 1 << 20, Stack: 1 << 12, Rules: s.Rules})
}

// P7.2: the numbers' bounds; -1 is none of them.
func TestNumbersRefused(t *testing.T) {
	s := with(rules(3, 7)...)
	for _, b := range setBounds {
		within, without := b.around()
		for _, n := range within {
			checkApply(t, s, changing(b.name, n), withNumber(b.name, n))
		}
		for _, n := range without {
			if n != -1 {
				checkRefused(t, s, changing(b.name, n), api.ErrRule)
			}
		}
		checkApply(t, s, changing(b.name, -1), s)
	}
	checkRefused(t, s, rule.Delta{}, api.ErrRule)
}

// P7.2: rules that come anew or in the place of one, and rules that go; in whatever order a delta names them, the IDs rise.
func TestPutAndDrop(t *testing.T) {
	other := func(id int) rule.Rule {
		return rule.Rule{ID: id, Priority: 0, Action: 0, Scope: 65535, Pattern: ""}
	}
	for _, c := range []struct {
		has  []rule.Rule
		d    rule.Delta
		want []rule.Rule
	}{
		{nil, put(nil), nil}, {rules(1, 2), put(nil), rules(1, 2)}, {rules(1, 2), put([]rule.Rule{}, []int{}...), rules(1, 2)},
		{nil, put(rules(4)), rules(4)}, {nil, put(rules(9, 2, most, 1)), rules(1, 2, 9, most)},
		{rules(5, 9), put(rules(1)), rules(1, 5, 9)}, {rules(5, 9), put(rules(7)), rules(5, 7, 9)}, {rules(5, 9), put(rules(10)), rules(5, 9, 10)},
		{rules(5, 9), put(rules(10, 7, 1)), rules(1, 5, 7, 9, 10)},
		{rules(5, 9), put([]rule.Rule{other(5)}), []rule.Rule{other(5), good(9)}}, {rules(5, 9), put([]rule.Rule{other(9)}), []rule.Rule{good(5), other(9)}},
		{rules(5, 9), put([]rule.Rule{other(9), other(7), other(5)}), []rule.Rule{other(5), other(7), other(9)}}, {rules(5, 9), put(rules(5)), rules(5, 9)},
		{rules(1, 2, 3), put(nil, 1), rules(2, 3)}, {rules(1, 2, 3), put(nil, 2), rules(1, 3)}, {rules(1, 2, 3), put(nil, 3), rules(1, 2)},
		{rules(1, 2, 3), put(nil, 3, 1), rules(2)}, {rules(1, 2, 3), put(nil, 2, 3, 1), nil}, {rules(most), put(nil, most), nil},
		{rules(1, 2, 3), put([]rule.Rule{other(2), other(4)}, 3, 1), []rule.Rule{other(2), other(4)}}, {rules(1), put(rules(2), 1), rules(2)},
	} {
		checkApply(t, with(c.has...), c.d, with(c.want...))
	}
}

// P7.2: a set that isn't right, even if the delta would mend it.
func TestErrForm(t *testing.T) {
	for _, s := range wrongSets() {
		checkRefused(t, s, put(nil), api.ErrForm)
		checkRefused(t, s, numbers(0, 0, 1, 0), api.ErrForm)
		checkRefused(t, s, put(rules(5)), api.ErrForm)
		checkRefused(t, s, put(nil, 5), api.ErrForm)
		checkRefused(t, s, put(rules(1, 2, 5, 6, 7)), api.ErrForm)
	}
}

// P7.2: a rule of Put that isn't right, wherever it stands.
func TestErrRule(t *testing.T) {
	for _, s := range []rule.Set{rule.First(), with(rules(1, 5)...)} {
		for _, r := range wrongRules() {
			for _, list := range [][]rule.Rule{{r}, {r, good(2), good(3)}, {good(2), r, good(3)}, {good(2), good(3), r}} {
				checkRefused(t, s, put(list), api.ErrRule)
			}
		}
	}
}

// P7.2: an ID that a delta names twice, whether the set has it or not, and whether its rules are alike or not.
func TestErrTwice(t *testing.T) {
	unlike := good(5)
	unlike.Pattern = "c"
	for _, s := range []rule.Set{rule.First(), with(rules(5)...), with(rules(1, 5, 7)...)} {
		for _, d := range []rule.Delta{
			put(rules(5, 5)), put([]rule.Rule{good(5), unlike}), put(rules(5, 2, 5)), put(rules(1, 2, 3, 4, 2)),
			put(nil, 5, 5), put(nil, 5, 1, 5), put(nil, 1, 7, 5, 7), put(nil, 0, 0), put(nil, -1, 4, -1), put(nil, math.MinInt, math.MinInt),
			put(rules(5), 5), put(rules(5, 2), 1, 5), put(rules(1, 2), 7, 2), put(rules(9, most), most),
		} {
			checkRefused(t, s, d, api.ErrTwice)
		}
	}
}

// P7.2: what is to go must be there, ahead of the change.
func TestErrNone(t *testing.T) {
	for _, c := range []struct {
		has []rule.Rule
		d   rule.Delta
	}{
		{nil, put(nil, 1)}, {nil, put(rules(1), 2)}, {rules(1, 3), put(nil, 2)}, {rules(1, 3), put(nil, 1, 2)}, {rules(1, 3), put(nil, 2, 1)}, {rules(1, 3), put(nil, 1, 3, 4)},
		{rules(1, 3), put(nil, 0)}, {rules(1, 3), put(nil, -1)}, {rules(1, 3), put(nil, 1, math.MinInt)}, {rules(1, 3), put(nil, math.MaxInt)}, {rules(1, 3), put(nil, 1<<32+1)}, {rules(1, most), put(nil, most+1)},
	} {
		checkRefused(t, with(c.has...), c.d, api.ErrNone)
	}
}

// P7.2: what comes and goes is counted at the end, not under way.
func TestErrFull(t *testing.T) {
	full := with(rules(upTo(16)...)...)
	checkApply(t, rule.First(), put(rules(upTo(16)...)), full)
	checkRefused(t, rule.First(), put(rules(upTo(17)...)), api.ErrFull)
	checkApply(t, with(rules(upTo(15)...)...), put(rules(16)), full)
	checkRefused(t, with(rules(upTo(15)...)...), put(rules(16, 17)), api.ErrFull)
	checkRefused(t, full, put(rules(17)), api.ErrFull)
	checkRefused(t, full, put(rules(3, 17)), api.ErrFull)
	checkApply(t, full, put(rules(3, 16)), full)
	checkApply(t, full, put(rules(upTo(16)...)), full)
	checkApply(t, full, put(rules(17), 1), with(rules(upTo(17)[1:]...)...))
	checkRefused(t, full, put(rules(18, 17), 1), api.ErrFull)
	checkApply(t, full, put(rules(18, 17), 2, 1), with(rules(upTo(18)[2:]...)...))
	checkApply(t, full, put(rules(upTo(32)[16:]...), upTo(16)...), with(rules(upTo(32)[16:]...)...))
	checkRefused(t, full, put(rules(upTo(33)[16:]...), upTo(16)...), api.ErrFull)
	checkApply(t, full, put(nil, upTo(16)...), rule.First())
}

// P7.2: where several errors apply, the first that is named.
func TestFirstError(t *testing.T) {
	wrong, full := with(rules(2, 1)...), with(rules(upTo(16)...)...)
	bad := rule.Rule{ID: 20}
	for _, c := range []struct {
		s    rule.Set
		d    rule.Delta
		want api.Errno
	}{
		{wrong, put([]rule.Rule{bad}), api.ErrForm}, {wrong, rule.Delta{}, api.ErrForm}, {wrong, put(rules(3, 3)), api.ErrForm}, {wrong, put(nil, 9), api.ErrForm}, {wrong, put(rules(upTo(17)...)), api.ErrForm},
		{wrong, rule.Delta{Put: []rule.Rule{bad, good(2)}, Drop: []int{2, 9, 9}}, api.ErrForm},
		{full, put([]rule.Rule{bad, bad}), api.ErrRule}, {full, put([]rule.Rule{good(2), good(2), bad}), api.ErrRule}, {full, put([]rule.Rule{bad}, 4, 4), api.ErrRule}, {full, put([]rule.Rule{bad}, 20), api.ErrRule},
		{full, put([]rule.Rule{bad}, 99), api.ErrRule}, {full, put([]rule.Rule{good(17), bad}), api.ErrRule},
		{full, rule.Delta{Put: rules(2, 2)}, api.ErrRule}, {full, rule.Delta{Drop: []int{2, 2}}, api.ErrRule}, {full, rule.Delta{Drop: []int{99}}, api.ErrRule}, {full, rule.Delta{Put: rules(17)}, api.ErrRule},
		{full, put(rules(2, 2), 99), api.ErrTwice}, {full, put(nil, 99, 98, 99), api.ErrTwice}, {full, put(nil, 99, 2, 2), api.ErrTwice}, {full, put(rules(99), 99), api.ErrTwice},
		{full, put(rules(17, 18, 17)), api.ErrTwice}, {full, put(rules(17, 18, 2), 2), api.ErrTwice}, {full, put(rules(17, 18), 2, 2), api.ErrTwice},
		{full, put(rules(17), 99), api.ErrNone}, {full, put(rules(17, 18, 19), 2, 99), api.ErrNone}, {rule.First(), put(rules(upTo(17)...), 18), api.ErrNone},
	} {
		checkRefused(t, c.s, c.d, c.want)
	}
}

// checkDiff holds what Diff answers against the delta that is due, and sees that it leads from the one set to the other.
func checkDiff(t *testing.T, a, b rule.Set, want rule.Delta) {
	t.Helper()
	got, e := rule.Diff(a, b)
	if e != api.OK || !sameDelta(got, want) {
		t.Fatalf("%+v to %+v: %+v %d, not %+v", a, b, got, e, want)
	}
	checkApply(t, a, got, b)
}

// P7.3: the four numbers.
func TestDiffNumbers(t *testing.T) {
	a := rule.Set{Default: 11, Closed: 12, Fuel: 13, Stack: 14, Rules: rules(1, 9)}
	for choice := range 16 {
		b, want := a, put(nil)
		if choice&1 != 0 {
			b.Default, want.Default = 21, 21
		}
		if choice&2 != 0 {
			b.Closed, want.Closed = 22, 22
		}
		if choice&4 != 0 {
			b.Fuel, want.Fuel = 23, 23
		}
		if choice&8 != 0 {
			b.Stack, want.Stack = 24, 24
		}
		checkDiff(t, a, b, want)
	}
	least, greatest := rule.Set{Fuel: 1}, rule.Set{Default: 255, Closed: 255, Fuel: 1 << 20, Stack: 1 << 12}
	checkDiff(t, greatest, least, numbers(0, 0, 1, 0))
	checkDiff(t, least, greatest, numbers(255, 255, 1<<20, 1<<12))
}

// P7.3: Put and Drop, and their order.
func TestDiffRules(t *testing.T) {
	full, others := rules(upTo(16)...), rules(upTo(32)[16:]...)
	for _, c := range []struct {
		a, b []rule.Rule
		want rule.Delta
	}{
		{nil, nil, put(nil)}, {rules(1, 2), rules(1, 2), put(nil)}, {full, full, put(nil)},
		{nil, rules(3), put(rules(3))}, {nil, rules(1, 4, 6, most), put(rules(1, 4, 6, most))}, {rules(3), nil, put(nil, 3)}, {rules(1, 4, 6, most), nil, put(nil, 1, 4, 6, most)},
		{rules(5, 9), rules(1, 5, 7, 9, 11), put(rules(1, 7, 11))}, {rules(1, 5, 7, 9, 11), rules(5, 9), put(nil, 1, 7, 11)},
		{rules(1, 3, 5, 7), rules(2, 3, 4, 7, 8), put(rules(2, 4, 8), 1, 5)}, {rules(1), rules(2), put(rules(2), 1)}, {rules(2), rules(1), put(rules(1), 2)},
		{full, others, put(others, upTo(16)...)}, {others, full, put(full, upTo(32)[16:]...)}, {full, nil, put(nil, upTo(16)...)}, {nil, full, put(full)},
	} {
		checkDiff(t, with(c.a...), with(c.b...), c.want)
	}
}

// P7.3: a rule that is unlike in one part alone is put.
func TestDiffParts(t *testing.T) {
	unlike := []rule.Rule{good(5), good(5), good(5), good(5), good(5), good(5)}
	unlike[0].Priority++
	unlike[1].Action++
	unlike[2].Scope++
	unlike[3].Pattern += "c"
	unlike[4].Pattern = "a+c"
	unlike[5].Pattern = ""
	for _, r := range unlike {
		a, b := with(good(2), good(5), good(7)), with(good(2), r, good(7))
		checkDiff(t, a, b, put([]rule.Rule{r}))
		checkDiff(t, b, a, put(rules(5)))
	}
	// The pattern's text counts, not the memory in which it lies.
	alike := good(5)
	alike.Pattern = strings.Clone(alike.Pattern)
	checkDiff(t, with(good(5)), with(alike), put(nil))
}

// P7.3: ErrForm, whichever set isn't right, and nothing beside it.
func TestDiffErrForm(t *testing.T) {
	for _, wrong := range wrongSets() {
		for _, other := range []rule.Set{rule.First(), with(rules(1, 2)...), wrong} {
			for _, pair := range [][2]rule.Set{{wrong, other}, {other, wrong}} {
				if d, e := rule.Diff(pair[0], pair[1]); e != api.ErrForm || !sameDelta(d, rule.Delta{}) {
					t.Fatalf("%+v: %+v %d", pair, d, e)
				}
			}
		}
	}
}

// ranked is a right rule with these parts.
func ranked(id, priority, scope int) rule.Rule {
	return rule.Rule{ID: id, Priority: priority, Scope: scope, Pattern: "a"}
}

// P7.4: places by Priority and ID, and the rules that are left out.
func TestOrder(t *testing.T) {
	mixed := with(ranked(1, 5, 1), ranked(2, 9, 2), ranked(3, 5, 3), ranked(7, 0, 4), ranked(8, 9, 6), ranked(9, 1000, 65535), ranked(most, 5, 32768))
	for _, c := range []struct {
		s     rule.Set
		scope int
		want  []int
	}{
		{mixed, 1, []int{5, 0, 2}}, {mixed, 2, []int{5, 1, 4, 2}}, {mixed, 3, []int{5, 1, 4, 0, 2}}, {mixed, 4, []int{5, 4, 3}}, {mixed, 5, []int{5, 4, 0, 2, 3}},
		{mixed, 6, []int{5, 1, 4, 2, 3}}, {mixed, 7, []int{5, 1, 4, 0, 2, 3}}, {mixed, 8, []int{5}}, {mixed, 32768, []int{5, 6}}, {mixed, 65535, []int{5, 1, 4, 0, 2, 6, 3}},
		{mixed, 0, nil}, {mixed, 65536, nil}, {mixed, 1 << 32, nil}, {mixed, 1<<32 + 1, []int{5, 0, 2}}, {mixed, -65536, nil}, {mixed, math.MinInt, nil},
		{mixed, -1, []int{5, 1, 4, 0, 2, 6, 3}}, {mixed, -2, []int{5, 1, 4, 2, 6, 3}}, {mixed, math.MaxInt, []int{5, 1, 4, 0, 2, 6, 3}},
		{rule.First(), 65535, nil}, {with(ranked(1, 0, 2)), 1, nil}, {with(ranked(1, 0, 2)), 2, []int{0}},
		{with(ranked(4, 1, 1), ranked(5, 2, 1), ranked(6, 3, 1)), 1, []int{2, 1, 0}}, {with(ranked(4, 3, 1), ranked(5, 2, 1), ranked(6, 1, 1)), 1, []int{0, 1, 2}},
		{with(rules(upTo(16)...)...), 1, []int{0, 1, 2, 3, 4, 5, 6, 7, 8, 9, 10, 11, 12, 13, 14, 15}}, {with(rules(upTo(16)...)...), 2, nil},
	} {
		if got := c.s.Order(c.scope); !slices.Equal(got, c.want) {
			t.Errorf("%d: %v, not %v", c.scope, got, c.want)
		}
	}
}

// P7.4: nothing of a set that isn't right.
func TestOrderOfWrongSets(t *testing.T) {
	for _, s := range wrongSets() {
		for _, scope := range []int{1, 65535, -1, 0} {
			if got := s.Order(scope); len(got) != 0 {
				t.Errorf("%+v: %v", s, got)
			}
		}
	}
}

// P1: long lists end in good time.
func TestLongLists(t *testing.T) {
	const many = 1 << 18
	ids := upTo(many)
	long, full := with(rules(ids...)...), with(rules(upTo(16)...)...)
	if long.Right() || long.Order(1) != nil {
		t.Error("a long set is right")
	}
	if r, ok := long.Rule(many); !ok || r != good(many) {
		t.Error(r, ok)
	}
	checkRefused(t, long, put(nil), api.ErrForm)
	if got, e := rule.Apply(full, put(long.Rules)); e != api.ErrFull || !same(got, rule.Set{}) {
		t.Error(e)
	}
	if got, e := rule.Apply(full, put(nil, ids...)); e != api.ErrNone || !same(got, rule.Set{}) {
		t.Error(e)
	}
	if got, e := rule.Apply(full, put(long.Rules, many)); e != api.ErrTwice || !same(got, rule.Set{}) {
		t.Error(e)
	}
}
