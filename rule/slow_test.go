package rule_test

import (
	"slices"
	"testing"

	"colander/api"
	"colander/rule"
)

// What follows is the chapter a second time: lists alone, gone through again and again, each promise by its own words.

// rightRule is the document's words of a right rule.
func rightRule(r rule.Rule) bool {
	return !(r.ID < 1 || r.ID > 1<<40 || r.Priority < 0 || r.Priority > 1000 || r.Action < 0 || r.Action > 255 || r.Scope < 1 || r.Scope > 65535 || len(r.Pattern) > 256)
}

// rightSet holds each ID against all those ahead.
func rightSet(s rule.Set) bool {
	if s.Default < 0 || s.Default > 255 || s.Closed < 0 || s.Closed > 255 || s.Fuel < 1 || s.Fuel > 1<<20 || s.Stack < 0 || s.Stack > 1<<12 || len(s.Rules) > 16 {
		return false
	}
	for i, r := range s.Rules {
		if !rightRule(r) {
			return false
		}
		for _, ahead := range s.Rules[:i] {
			if r.ID <= ahead.ID {
				return false
			}
		}
	}
	return true
}

// find is the place of the first rule of an ID, -1 if there is none.
func find(list []rule.Rule, id int) int {
	return slices.IndexFunc(list, func(r rule.Rule) bool { return r.ID == id })
}

// often is how often a number is in a list.
func often(list []int, n int) int {
	many := 0
	for _, m := range list {
		if m == n {
			many++
		}
	}
	return many
}

// ids are the IDs of rules.
func ids(list []rule.Rule) []int {
	var all []int
	for _, r := range list {
		all = append(all, r.ID)
	}
	return all
}

// slowErrors is whether each of Apply's errors applies, in the order in which they are named.
func slowErrors(s rule.Set, d rule.Delta) []bool {
	wrong := d.Default < -1 || d.Default > 255 || d.Closed < -1 || d.Closed > 255 || d.Fuel < -1 || d.Fuel == 0 || d.Fuel > 1<<20 || d.Stack < -1 || d.Stack > 1<<12
	twice, none, many := false, false, len(s.Rules)
	for _, r := range d.Put {
		wrong = wrong || !rightRule(r)
		twice = twice || often(ids(d.Put), r.ID) > 1 || often(d.Drop, r.ID) > 0
		if find(s.Rules, r.ID) < 0 {
			many++
		}
	}
	for _, id := range d.Drop {
		twice = twice || often(d.Drop, id) > 1
		none = none || find(s.Rules, id) < 0
		many--
	}
	return []bool{!rightSet(s), wrong, twice, none, many > 16}
}

// slowApply is what Apply is due to answer.
func slowApply(s rule.Set, d rule.Delta) (rule.Set, api.Errno) {
	for i, applies := range slowErrors(s, d) {
		if applies {
			return rule.Set{}, []api.Errno{api.ErrForm, api.ErrRule, api.ErrTwice, api.ErrNone, api.ErrFull}[i]
		}
	}
	for _, n := range []struct {
		place *int
		asked int
	}{{&s.Default, d.Default}, {&s.Closed, d.Closed}, {&s.Fuel, d.Fuel}, {&s.Stack, d.Stack}} {
		if n.asked != -1 {
			*n.place = n.asked
		}
	}
	s.Rules = slices.Clone(s.Rules)
	for _, id := range d.Drop {
		place := find(s.Rules, id)
		s.Rules = append(s.Rules[:place], s.Rules[place+1:]...)
	}
	for _, r := range d.Put {
		if place := find(s.Rules, r.ID); place >= 0 {
			s.Rules[place] = r
			continue
		}
		place := 0
		for place < len(s.Rules) && s.Rules[place].ID < r.ID {
			place++
		}
		s.Rules = slices.Insert(s.Rules, place, r)
	}
	return s, api.OK
}

// slowDiff is what Diff is due to answer.
func slowDiff(a, b rule.Set) (rule.Delta, api.Errno) {
	if !rightSet(a) || !rightSet(b) {
		return rule.Delta{}, api.ErrForm
	}
	d := numbers(b.Default, b.Closed, b.Fuel, b.Stack)
	for _, n := range []struct {
		place *int
		was   int
	}{{&d.Default, a.Default}, {&d.Closed, a.Closed}, {&d.Fuel, a.Fuel}, {&d.Stack, a.Stack}} {
		if *n.place == n.was {
			*n.place = -1
		}
	}
	for _, r := range b.Rules {
		if !slices.Contains(a.Rules, r) {
			d.Put = append(d.Put, r)
		}
	}
	for _, r := range a.Rules {
		if find(b.Rules, r.ID) < 0 {
			d.Drop = append(d.Drop, r.ID)
		}
	}
	return d, api.OK
}

// slowOrder takes the first of those that are left, again and again.
func slowOrder(s rule.Set, scope int) []int {
	if !rightSet(s) {
		return nil
	}
	var left, order []int
	for place, r := range s.Rules {
		for bit := range 16 {
			if r.Scope>>bit&1 == 1 && scope>>bit&1 == 1 {
				left = append(left, place)
				break
			}
		}
	}
	for len(left) > 0 {
		best := 0
		for i, place := range left {
			r, o := s.Rules[place], s.Rules[left[best]]
			if r.Priority > o.Priority || r.Priority == o.Priority && r.ID < o.ID {
				best = i
			}
		}
		order = append(order, left[best])
		left = slices.Delete(left, best, best+1)
	}
	return order
}

// againstSlow holds a change against the second way; it tells the error.
func againstSlow(t *testing.T, s rule.Set, d rule.Delta) api.Errno {
	t.Helper()
	want, due := slowApply(s, d)
	got, e := rule.Apply(s, d)
	if e != due || !same(got, want) {
		t.Fatalf("%+v to %+v: %+v %d, not %+v %d", d, s, got, e, want, due)
	}
	if e == api.OK && !rightSet(got) {
		t.Fatalf("%+v to %+v: %+v isn't right", d, s, got)
	}
	return e
}

// diffAgainstSlow holds a difference against the second way, and sees that it leads from the one set to the other.
func diffAgainstSlow(t *testing.T, a, b rule.Set) {
	t.Helper()
	want, due := slowDiff(a, b)
	got, e := rule.Diff(a, b)
	if e != due || !sameDelta(got, want) {
		t.Fatalf("%+v to %+v: %+v %d, not %+v %d", a, b, got, e, want, due)
	}
	if e == api.OK {
		checkApply(t, a, got, b)
	}
}

// lists are all lists of up to so many of these.
func lists[T any](of []T, most int) [][]T {
	all := [][]T{nil}
	last := all
	for range most {
		var longer [][]T
		for _, list := range last {
			for _, one := range of {
				longer = append(longer, append(slices.Clone(list), one))
			}
		}
		all = append(all, longer...)
		last = longer
	}
	return all
}

// fewRules are rules of the IDs 0 to 3, two of each but the first, which aren't right.
func fewRules() []rule.Rule {
	list := rules(0)
	for id := 1; id <= 3; id++ {
		list = append(list, good(id), ranked(id, 3, 2))
	}
	return list
}

// P7.1 to P7.4: all sets of up to three of a few rules, in whatever order, and all changes of up to two rules put and up to three dropped.
func TestShortLists(t *testing.T) {
	puts, drops := lists(fewRules(), 2), lists([]int{0, 1, 2, 3}, 3)
	many := map[api.Errno]int{}
	for _, list := range lists(fewRules(), 3) {
		s := with(list...)
		if s.Right() != rightSet(s) {
			t.Fatalf("%+v: %v", s, s.Right())
		}
		for scope := -1; scope < 4; scope++ {
			if got := s.Order(scope); !slices.Equal(got, slowOrder(s, scope)) {
				t.Fatalf("%+v %d: %v", s, scope, got)
			}
		}
		for id := -1; id <= 4; id++ {
			if r, ok := s.Rule(id); ok != (find(list, id) >= 0) || ok && r != list[find(list, id)] || !ok && r != (rule.Rule{}) {
				t.Fatalf("%+v %d: %+v %v", s, id, r, ok)
			}
		}
		if !rightSet(s) && len(list) > 1 {
			many[againstSlow(t, s, put(nil))]++
			continue
		}
		for _, list := range puts {
			for _, drop := range drops {
				many[againstSlow(t, s, put(list, drop...))]++
			}
		}
	}
	for _, e := range []api.Errno{api.OK, api.ErrForm, api.ErrRule, api.ErrTwice, api.ErrNone} {
		if many[e] < 100 {
			t.Errorf("the error %d came %d times", e, many[e])
		}
	}
}

// P7.3: each two of all sets of up to three of a few rules.
func TestShortDiffs(t *testing.T) {
	all := lists(fewRules(), 3)
	for _, a := range all {
		for _, b := range all {
			if rightSet(with(a...)) || rightSet(with(b...)) {
				diffAgainstSlow(t, with(a...), with(b...))
			}
		}
	}
}

// grower makes sets and deltas, the same at each run.
type grower struct{ x uint32 }

// below is a number from 0 to n-1.
func (g *grower) below(n int) int {
	g.x = g.x*1664525 + 1013904223
	return int(g.x>>8) % n
}

// one is one of these.
func (g *grower) one(of ...int) int { return of[g.below(len(of))] }

// rule is a rule of an ID, in few cases one that isn't right.
func (g *grower) rule(id int) rule.Rule {
	r := rule.Rule{ID: id, Priority: g.one(0, 1, 2, 1000), Action: g.one(0, 9, 255), Scope: g.one(1, 2, 3, 0x8000, 65535), Pattern: []string{"", "a", "b+"}[g.below(3)]}
	if g.below(400) == 0 {
		r.Priority, r.Scope = g.one(-1, 0, 1001), g.one(0, 65536)
	}
	return r
}

// ids are numbers from 1 to top, each with the odds of one in so many.
func (g *grower) ids(top, odds int) []int {
	var list []int
	for id := 1; id <= top; id++ {
		if g.below(odds) == 0 {
			list = append(list, id)
		}
	}
	return list
}

// set is a set that is right in most cases, and near full in many.
func (g *grower) set() rule.Set {
	s := rule.Set{Default: g.one(0, 5, 255), Closed: g.one(0, 5, 255), Fuel: g.one(1, 9, 1<<20), Stack: g.one(0, 9, 1<<12)}
	for _, id := range g.ids(g.one(4, 12, 16, 20), g.one(1, 1, 2, 4)) {
		s.Rules = append(s.Rules, g.rule(id))
	}
	if g.below(40) == 0 {
		s.Default, s.Closed, s.Fuel, s.Stack = g.one(-1, 0, 256), g.one(-1, 0, 256), g.one(0, 1, 1<<20+1), g.one(-1, 0, 1<<12+1)
	}
	if n := len(s.Rules); n > 1 && g.below(20) == 0 {
		s.Rules[g.below(n)].ID = s.Rules[g.below(n)].ID
	}
	return s
}

// delta is a delta whose lists stand in no order; few name an ID twice.
func (g *grower) delta() rule.Delta {
	d := numbers(g.one(-1, 0, 255), g.one(-1, 0, 255), g.one(-1, 1, 1<<20), g.one(-1, 0, 1<<12))
	if g.below(20) == 0 {
		d.Default, d.Closed, d.Fuel, d.Stack = g.one(-2, -1, 256), g.one(-2, -1, 256), g.one(-2, -1, 0, 1<<20+1), g.one(-2, -1, 1<<12+1)
	}
	puts := g.ids(20, g.one(2, 4, 10))
	for _, id := range g.ids(g.one(10, 16, 20), g.one(4, 10, 20)) {
		if !slices.Contains(puts, id) || g.below(60) == 0 {
			d.Drop = append(d.Drop, id)
		}
	}
	for _, id := range puts {
		d.Put = append(d.Put, g.rule(id))
	}
	if g.below(20) == 0 {
		d.Put = append(d.Put, g.rule(1+g.below(20)))
	}
	for i := range d.Put {
		j := g.below(i + 1)
		d.Put[i], d.Put[j] = d.Put[j], d.Put[i]
	}
	for i := range d.Drop {
		j := g.below(i + 1)
		d.Drop[i], d.Drop[j] = d.Drop[j], d.Drop[i]
	}
	return d
}

// P7.1 to P7.4: many sets, near full, too, and many changes of them.
func TestGrown(t *testing.T) {
	g := &grower{7}
	many := map[api.Errno]int{}
	for range 60000 {
		s, o, scope := g.set(), g.set(), g.one(-1, 0, 1, 2, 4, 0x8000, 1<<16)
		if s.Right() != rightSet(s) {
			t.Fatalf("%+v: %v", s, s.Right())
		}
		if got := s.Order(scope); !slices.Equal(got, slowOrder(s, scope)) {
			t.Fatalf("%+v %d: %v", s, scope, got)
		}
		many[againstSlow(t, s, g.delta())]++
		diffAgainstSlow(t, s, o)
	}
	for _, e := range []api.Errno{api.OK, api.ErrForm, api.ErrRule, api.ErrTwice, api.ErrNone, api.ErrFull} {
		if many[e] < 1000 {
			t.Errorf("the error %d came %d times", e, many[e])
		}
	}
}
