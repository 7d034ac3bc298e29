package sieve_test

import (
	"slices"
	"testing"

	"colander/api"
	"colander/rule"
	"colander/sieve"
	"colander/verdict"
)

// roomy is a list with spare room behind it, and all that it lies in.
func roomy[T any](list []T, spare T) (part, room []T) {
	room = append(slices.Clone(list), spare, spare, spare)
	return room[:len(list)], room
}

// spoil writes over a list and all its spare room.
func spoil[T any](list []T, with T) {
	for i := range list[:cap(list)] {
		list[:cap(list)][i] = with
	}
}

// spoilt is found in each text, ahead of all others.
var spoilt = rule.Rule{ID: 77, Priority: 1000, Action: 77, Scope: 65535}

// P9.1 and rules that hold everywhere: the set that is handed in is neither changed nor kept, and what Set tells is new memory.
func TestSetMemory(t *testing.T) {
	for _, list := range [][]rule.Rule{nil, {}, listed("a"), listed("b", "a+", "c"), listed(slices.Repeat([]string{"a|b"}, api.MaxRules)...)} {
		want := with(slices.Clone(list)...)
		due := made(t, want).Classify([]byte("xa"), 1)
		rules, room := roomy(list, spoilt)
		was := slices.Clone(room)
		s := with(rules...)
		v := made(t, s)
		one, two := v.Set(), v.Set()
		spoil(one.Rules, rule.Rule{ID: 88})
		one.Rules = append(one.Rules, spoilt)
		if !slices.Equal(room, was) || !same(two, want) || !same(v.Set(), want) {
			t.Fatalf("%+v %+v %+v: shared with what Set told", room, two, v.Set())
		}
		spoil(room, spoilt)
		s.Default, s.Closed, s.Fuel, s.Stack = 9, 9, 1, 0
		if !same(two, want) || !same(v.Set(), want) {
			t.Fatalf("%+v %+v: shared with what was handed in", two, v.Set())
		}
		checkSays(t, v, "xa", 1, due)
		for _, r := range want.Rules {
			if got, e := v.Match(r.ID, []byte("xab")); e != api.OK || got.Kind > 1 {
				t.Fatalf("the rule %d: %+v %d", r.ID, got, e)
			}
		}
		if got, e := v.Match(spoilt.ID, nil); e != api.ErrNone {
			t.Fatalf("%+v %d", got, e)
		}
	}
}

// P9.1: so of a set that may not be used.
func TestRefusedMemory(t *testing.T) {
	rules, room := roomy(listed("a", "b(", "c"), spoilt)
	was := slices.Clone(room)
	if v, told := sieve.Make(with(rules...)); v != nil || told != (verdict.Verdict{Code: api.ErrSyntax, Rule: 2, At: 1}) || !slices.Equal(room, was) {
		t.Errorf("%t %+v %+v", v != nil, told, room)
	}
}

// P9.2, P9.3 and rules that hold everywhere: a text is neither changed nor kept, and what Match tells is new memory.
func TestTextMemory(t *testing.T) {
	v := made(t, with(good(1, "(?i)(x)\\1"), good(2, "(a+)(\xff)b")))
	doc, room := roomy([]byte("aaa\xffb"), 'x')
	was := slices.Clone(room)
	one, _ := v.Match(2, doc)
	two, _ := v.Match(2, doc)
	checkSays(t, v, "xX", 1, says(101, 1))
	if got := v.Classify(doc, 1); got != says(102, 2) || !slices.Equal(room, was) {
		t.Fatalf("%+v %q", got, room)
	}
	spoil(one.Caps, 88)
	spoil(room, 'y')
	three, _ := v.Match(2, was[:len(doc)])
	want := append([]int{0, 5, 0, 3, 3, 4}, slices.Repeat([]int{-1}, 14)...)
	if !slices.Equal(two.Caps, want) || !slices.Equal(three.Caps, want) {
		t.Errorf("%v %v, not %v", two.Caps, three.Caps, want)
	}
	if got := v.Classify(was, 1); got != says(101, 1) {
		t.Errorf("%+v", got)
	}
}
