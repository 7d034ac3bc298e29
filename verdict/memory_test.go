package verdict_test

import (
	"slices"
	"testing"

	"colander/api"
	"colander/rule"
	"colander/verdict"
)

// roomy is a list with spare room behind it, and all that it lies in.
func roomy[T any](list []T, spare T) (part, room []T) {
	room = append(slices.Clone(list), spare, spare, spare)
	return room[:len(list)], room
}

// spoil writes over a list and all its spare room.
func spoil[T any](list []T, with T) {
	for i := range list[:cap(list)] {
		list[:cap(list)][i] = with
	}
}

var spoilt = rule.Rule{ID: 77, Priority: 77, Action: 77, Scope: 77, Pattern: "spoilt"}

// P8.2 and rules that hold everywhere: what is handed in stays as it is and isn't kept, whether it is refused or not, and a set that is told is new memory.
func TestMemory(t *testing.T) {
	has := []rule.Rule{good(1, "a"), good(5, "b"), good(9, "c")}
	for _, c := range []struct {
		has, puts []rule.Rule
		drop      []int
		want      verdict.Verdict
		list      []rule.Rule
	}{
		{has, []rule.Rule{good(7, "d"), good(2, "e"), good(5, "f")}, []int{9, 1}, verdict.Verdict{}, []rule.Rule{good(2, "e"), good(5, "f"), good(7, "d")}},
		{has, nil, nil, verdict.Verdict{}, has}, {nil, has, nil, verdict.Verdict{}, has}, {has, nil, []int{9}, verdict.Verdict{}, has[:2]},
		{has, []rule.Rule{good(7, "d"), good(2, "a)")}, []int{9, 1}, verdict.Verdict{Code: api.ErrSyntax, Rule: 2, At: 1}, nil},
		{has, []rule.Rule{good(5, far)}, nil, verdict.Verdict{Code: api.ErrSize, Rule: 5}, nil},
		{has, []rule.Rule{good(5, "(")}, []int{9, 1, 2}, verdict.Verdict{Code: api.ErrNone}, nil},
		{[]rule.Rule{good(9, "a"), good(5, "b")}, has, []int{9}, verdict.Verdict{Code: api.ErrForm}, nil},
	} {
		has, hasRoom := roomy(c.has, spoilt)
		puts, putRoom := roomy(c.puts, spoilt)
		drop, dropRoom := roomy(c.drop, 77)
		hasWas, putWas, dropWas := slices.Clone(hasRoom), slices.Clone(putRoom), slices.Clone(dropRoom)
		// Two calls could change a list and change it back, so it is held after each one.
		untouched := func() {
			t.Helper()
			if !slices.Equal(hasRoom, hasWas) || !slices.Equal(putRoom, putWas) || !slices.Equal(dropRoom, dropWas) {
				t.Fatalf("changed to %v %v %v, or shared", hasRoom, putRoom, dropRoom)
			}
		}
		verdict.Rules(with(has...))
		untouched()
		one, _ := verdict.Change(with(has...), put(puts, drop...))
		untouched()
		two, v := verdict.Change(with(has...), put(puts, drop...))
		spoil(one.Rules, rule.Rule{ID: 88})
		untouched()
		spoil(hasRoom, spoilt)
		spoil(putRoom, spoilt)
		spoil(dropRoom, 77)
		if v != c.want || !slices.Equal(two.Rules, c.list) {
			t.Fatalf("%+v %+v, not %+v %+v", two, v, c.list, c.want)
		}
	}
}
