package rule_test

import (
	"slices"
	"testing"

	"colander/rule"
)

// roomy is a list with spare room behind it, and all that it lies in.
func roomy[T any](list []T, spare T) (part, room []T) {
	room = append(slices.Clone(list), spare, spare, spare)
	return room[:len(list)], room
}

// spoil writes over a list and all its spare room.
func spoil[T any](list []T, with T) {
	for i := range list[:cap(list)] {
		list[:cap(list)][i] = with
	}
}

var spoilt = rule.Rule{ID: 77, Priority: 77, Action: 77, Scope: 77, Pattern: "spoilt"}

// Rules that hold everywhere: what Apply is handed stays as it is and isn't kept, and what it answers is new memory.
func TestApplyMemory(t *testing.T) {
	for _, c := range []struct {
		has  []rule.Rule
		puts []rule.Rule
		drop []int
		want []rule.Rule
	}{
		{rules(1, 5, 9), rules(7, 2, 5), []int{9, 1}, rules(2, 5, 7)}, {rules(1, 5, 9), nil, nil, rules(1, 5, 9)}, {nil, rules(1, 2, 3), nil, rules(1, 2, 3)},
		{rules(1, 5), rules(1, 5), nil, rules(1, 5)}, {rules(1, 5, 9), nil, []int{9}, rules(1, 5)}, {rules(1, 5, 9), nil, []int{1, 5, 9}, nil},
	} {
		has, hasRoom := roomy(c.has, spoilt)
		puts, putRoom := roomy(c.puts, spoilt)
		drop, dropRoom := roomy(c.drop, 77)
		hasWas, putWas, dropWas := slices.Clone(hasRoom), slices.Clone(putRoom), slices.Clone(dropRoom)
		one, _ := rule.Apply(with(has...), put(puts, drop...))
		two, _ := rule.Apply(with(has...), put(puts, drop...))
		spoil(one.Rules, rule.Rule{ID: 88})
		if !slices.Equal(hasRoom, hasWas) || !slices.Equal(putRoom, putWas) || !slices.Equal(dropRoom, dropWas) {
			t.Fatalf("changed to %v %v %v, or shared", hasRoom, putRoom, dropRoom)
		}
		spoil(hasRoom, spoilt)
		spoil(putRoom, spoilt)
		spoil(dropRoom, 77)
		if !same(two, with(c.want...)) {
			t.Fatalf("%+v, not %+v", two, c.want)
		}
	}
}

// Rules that hold everywhere: so for Diff, whose Put and Drop share nothing with the sets, nor with another answer's.
func TestDiffMemory(t *testing.T) {
	for _, c := range [][2][]rule.Rule{{rules(1, 5, 9), rules(2, 5, 7)}, {rules(1, 5), nil}, {nil, rules(1, 5)}, {rules(1, 5), rules(1, 5)}} {
		a, aRoom := roomy(c[0], spoilt)
		b, bRoom := roomy(c[1], spoilt)
		aWas, bWas := slices.Clone(aRoom), slices.Clone(bRoom)
		one, _ := rule.Diff(with(a...), with(b...))
		two, e := rule.Diff(with(a...), with(b...))
		spoil(one.Put, rule.Rule{ID: 88})
		spoil(one.Drop, 88)
		if !slices.Equal(aRoom, aWas) || !slices.Equal(bRoom, bWas) {
			t.Fatalf("changed to %v %v, or shared", aRoom, bRoom)
		}
		spoil(aRoom, spoilt)
		spoil(bRoom, spoilt)
		want, due := rule.Diff(with(c[0]...), with(c[1]...))
		if !sameDelta(two, want) || e != due {
			t.Fatalf("%+v %d, not %+v", two, e, want)
		}
	}
}

// Rules that hold everywhere: so for the calls that ask, and for First.
func TestAskingMemory(t *testing.T) {
	list, room := roomy([]rule.Rule{ranked(1, 3, 1), ranked(2, 5, 3), ranked(3, 5, 2), ranked(4, 9, 1)}, spoilt)
	was := slices.Clone(room)
	s := with(list...)
	s.Right()
	s.Rule(3)
	one, two := s.Order(1), s.Order(1)
	spoil(one, 88)
	if !slices.Equal(room, was) || !slices.Equal(two, []int{3, 1, 0}) {
		t.Errorf("%v %v", room, two)
	}
	first := rule.First()
	first.Rules = append(first.Rules, good(1))
	spoil(first.Rules, spoilt)
	if again := rule.First(); len(again.Rules) != 0 {
		t.Errorf("%+v", again)
	}
}
