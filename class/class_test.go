package class_test

import (
	"math"
	"slices"
	"testing"

	"colander/api"
	"colander/class"
)

const top = api.MaxUnit

// goodRange is the document's words of a right range.
func goodRange(r class.Range) bool { return 0 <= r.Lo && r.Lo <= r.Hi && r.Hi <= top }

// goodSet holds all ranges of a set against each other, so that it leans on no order of going through them.
func goodSet(s class.Set) bool {
	for i, r := range s {
		if !goodRange(r) {
			return false
		}
		for _, later := range s[i+1:] {
			if later.Lo < r.Hi+2 {
				return false
			}
		}
	}
	return true
}

// inAny is the document's words of having a number.
func inAny(ranges []class.Range, u int) bool {
	return slices.ContainsFunc(ranges, func(r class.Range) bool { return u >= r.Lo && u <= r.Hi })
}

// number goes through the numbers from lo to hi one by one, and is the only normal set of those that has holds of.
func number(lo, hi int, has func(int) bool) class.Set {
	var s class.Set
	for u := lo; u <= hi; u++ {
		switch {
		case !has(u):
		case len(s) > 0 && s[len(s)-1].Hi == u-1:
			s[len(s)-1].Hi = u
		default:
			s = append(s, class.Range{Lo: u, Hi: u})
		}
	}
	return s
}

// twinOf spells the letters out.
func twinOf(u int) int {
	const small, great = "abcdefghijklmnopqrstuvwxyz", "ABCDEFGHIJKLMNOPQRSTUVWXYZ"
	for i := range small {
		switch u {
		case int(small[i]):
			return int(great[i])
		case int(great[i]):
			return int(small[i])
		}
	}
	return u
}

// shortLists are all lists of up to three ranges with ends from lo to hi, those that aren't right among them.
func shortLists(lo, hi int) [][]class.Range {
	lists := [][]class.Range{nil}
	last := lists
	for range 3 {
		var longer [][]class.Range
		for _, list := range last {
			for a := lo; a <= hi; a++ {
				for b := lo; b <= hi; b++ {
					longer = append(longer, append(slices.Clone(list), class.Range{Lo: a, Hi: b}))
				}
			}
		}
		lists = append(lists, longer...)
		last = longer
	}
	return lists
}

// subsets are the normal sets of all choices among the numbers from lo on, so many.
func subsets(lo, many int) []class.Set {
	var sets []class.Set
	for choice := range 1 << many {
		sets = append(sets, number(lo, lo+many-1, func(u int) bool { return choice>>(u-lo)&1 == 1 }))
	}
	return sets
}

// wrongSets aren't normal, each in another way.
func wrongSets() []class.Set {
	return []class.Set{
		{{Lo: -1, Hi: 3}}, {{Lo: 4, Hi: 3}}, {{Lo: top, Hi: top + 1}}, {{Lo: top + 1, Hi: top + 1}}, {{Lo: -5, Hi: -4}},
		{{Lo: 1, Hi: 2}, {Lo: 3, Hi: 4}}, {{Lo: 1, Hi: 2}, {Lo: 2, Hi: 4}}, {{Lo: 1, Hi: 9}, {Lo: 3, Hi: 4}}, {{Lo: 1, Hi: 2}, {Lo: 1, Hi: 2}},
		{{Lo: 5, Hi: 6}, {Lo: 1, Hi: 2}}, {{Lo: 1, Hi: 2}, {Lo: 9, Hi: 8}}, {{Lo: 1, Hi: 2}, {Lo: 8, Hi: 9}, {Lo: 10, Hi: 10}},
		{{Lo: 0, Hi: math.MaxInt}}, {{Lo: math.MinInt, Hi: 0}}, {{Lo: math.MinInt, Hi: math.MaxInt}}, {{Lo: math.MaxInt, Hi: math.MinInt}},
		{{Lo: 0, Hi: math.MaxInt}, {Lo: math.MinInt, Hi: 5}}, {{Lo: 1, Hi: 2}, {Lo: math.MinInt, Hi: math.MinInt}}, {{Lo: math.MinInt, Hi: math.MinInt}, {Lo: math.MaxInt, Hi: math.MaxInt}},
	}
}

// checkSet holds a set that was answered with OK against the one that is due.
func checkSet(t *testing.T, what string, of any, got class.Set, e api.Errno, want class.Set) {
	t.Helper()
	if e != api.OK || !slices.Equal(got, want) {
		t.Fatalf("%s of %v: %v %d, not %v", what, of, got, e, want)
	}
}

// checkRefused holds an answer against an error with nothing beside it.
func checkRefused(t *testing.T, what string, of any, got class.Set, e, want api.Errno) {
	t.Helper()
	if e != want || len(got) != 0 {
		t.Errorf("%s of %v: %v %d, not %d", what, of, got, e, want)
	}
}

// P2.1: all short lists at both ends of the numbers, and among them.
func TestShortLists(t *testing.T) {
	for _, lo := range []int{-1, 40, top - 4} {
		for _, list := range shortLists(lo, lo+5) {
			s := class.Set(list)
			good := goodSet(s)
			if s.Normal() != good {
				t.Fatalf("%v is normal: %t", s, !good)
			}
			count := 0
			for u := lo - 1; u <= lo+6; u++ {
				in := inAny(list, u)
				if s.Has(u) != in {
					t.Fatalf("%v has %d: %t", s, u, !in)
				}
				if good && in {
					count++
				}
			}
			if s.Count() != count {
				t.Fatalf("%v counts %d, not %d", s, s.Count(), count)
			}
			made, e := class.Make(list...)
			if slices.ContainsFunc(list, func(r class.Range) bool { return !goodRange(r) }) {
				checkRefused(t, "Make", list, made, e, api.ErrRange)
				continue
			}
			checkSet(t, "Make", list, made, e, number(lo-1, lo+6, func(u int) bool { return inAny(list, u) }))
		}
	}
}

// P2.1.
func TestNormal(t *testing.T) {
	for _, s := range []class.Set{nil, {}, {{0, top}}, {{0, 0}, {2, 2}, {top, top}}, {{0xd7ff, 0xe000}, {0x10ffff, 0x110080}}} {
		if !s.Normal() {
			t.Errorf("%v isn't normal", s)
		}
	}
	for _, s := range wrongSets() {
		if s.Normal() || s.Count() != 0 {
			t.Errorf("%v is normal, or counts %d", s, s.Count())
		}
	}
}

// P2.1.
func TestMake(t *testing.T) {
	for _, c := range []struct{ ranges, want []class.Range }{
		{nil, nil},
		{[]class.Range{}, nil},
		{[]class.Range{{5, 9}, {1, 2}, {3, 3}}, []class.Range{{1, 3}, {5, 9}}},
		{[]class.Range{{0, top}}, []class.Range{{0, top}}},
		{[]class.Range{{1, top}, {0, 0}}, []class.Range{{0, top}}},
		{[]class.Range{{1, 100}, {2, 3}, {4, 5}, {50, 60}, {101, 102}, {104, 104}}, []class.Range{{1, 102}, {104, 104}}},
		{[]class.Range{{7, 7}, {7, 7}, {5, 5}, {9, 9}}, []class.Range{{5, 5}, {7, 7}, {9, 9}}},
		{[]class.Range{{3, 3}, {3, 8}, {3, 5}, {9, 9}}, []class.Range{{3, 9}}},
		{[]class.Range{{0xd800, 0xdfff}, {0x110000, 0x11007f}}, []class.Range{{0xd800, 0xdfff}, {0x110000, 0x11007f}}},
	} {
		s, e := class.Make(c.ranges...)
		checkSet(t, "Make", c.ranges, s, e, c.want)
	}
}

// P2.1: one range that isn't right among right ones, at each place.
func TestMakeRefused(t *testing.T) {
	wrong := []class.Range{{-1, 0}, {-1, -1}, {2, 1}, {0, top + 1}, {top + 1, top + 1}, {top, 0}, {math.MinInt, math.MaxInt}, {math.MaxInt, math.MinInt}, {0, math.MaxInt}, {math.MinInt, 5}, {1 << 32, 1<<32 + 1}}
	for _, r := range wrong {
		for _, list := range [][]class.Range{{r}, {r, {1, 2}}, {{1, 2}, r, {3, 4}}, {{8, 9}, {1, 2}, r}} {
			s, e := class.Make(list...)
			checkRefused(t, "Make", list, s, e, api.ErrRange)
		}
	}
}

// P2.1: sets that aren't normal have what their ranges have.
func TestHas(t *testing.T) {
	for _, c := range []struct {
		s    class.Set
		u    int
		want bool
	}{
		{nil, 0, false}, {class.Set{}, 0, false},
		{class.Set{{1, 3}, {5, 9}}, 0, false}, {class.Set{{1, 3}, {5, 9}}, 1, true}, {class.Set{{1, 3}, {5, 9}}, 3, true}, {class.Set{{1, 3}, {5, 9}}, 4, false},
		{class.Set{{1, 3}, {5, 9}}, 5, true}, {class.Set{{1, 3}, {5, 9}}, 9, true}, {class.Set{{1, 3}, {5, 9}}, 10, false}, {class.Set{{1, 3}, {5, 9}}, -1, false},
		{class.Set{{5, 9}, {1, 3}}, 2, true}, {class.Set{{5, 9}, {1, 3}}, 7, true}, {class.Set{{1, 20}, {3, 4}}, 15, true}, {class.Set{{9, 5}}, 7, false},
		{class.Set{{9, 5}, {7, 7}}, 7, true}, {class.Set{{-9, -5}}, -7, true}, {class.Set{{top + 1, top + 5}}, top + 3, true},
		{class.Set{{math.MinInt, math.MaxInt}}, math.MinInt, true}, {class.Set{{math.MinInt, math.MaxInt}}, math.MaxInt, true}, {class.Set{{math.MaxInt, math.MinInt}}, 0, false},
		{class.Set{{0, top}}, top, true}, {class.Set{{0, top}}, top + 1, false}, {class.Set{{0, top}}, -1, false}, {class.Set{{0, top}}, math.MinInt, false},
		{class.Set{{'a', 'b'}}, 'A', false}, {class.Set{{'a', 'b'}}, 1<<32 + 'a', false},
	} {
		if c.s.Has(c.u) != c.want {
			t.Errorf("%v has %d: %t", c.s, c.u, !c.want)
		}
	}
}

// P2.1.
func TestCount(t *testing.T) {
	for _, c := range []struct {
		s    class.Set
		want int
	}{
		{nil, 0}, {class.Set{}, 0}, {class.Set{{0, top}}, top + 1}, {class.Set{{0, 0}}, 1}, {class.Set{{1, 3}, {5, 9}}, 8}, {class.Set{{0, 9}, {top - 9, top}}, 20},
		{class.Set{{5, 9}, {1, 3}}, 0}, {class.Set{{1, 3}, {4, 9}}, 0}, {class.Set{{1, 3}, {5, 4}}, 0}, {class.Set{{1, 3}, {5, top + 1}}, 0},
	} {
		if got := c.s.Count(); got != c.want {
			t.Errorf("%v counts %d, not %d", c.s, got, c.want)
		}
	}
}

// P2.2: the examples, and the ends.
func TestNot(t *testing.T) {
	for _, c := range []struct{ s, want class.Set }{
		{class.Set{{1, 3}, {5, 9}}, class.Set{{0, 0}, {4, 4}, {10, top}}},
		{nil, class.Set{{0, top}}}, {class.Set{}, class.Set{{0, top}}}, {class.Set{{0, top}}, nil},
		{class.Set{{0, 0}}, class.Set{{1, top}}}, {class.Set{{top, top}}, class.Set{{0, top - 1}}}, {class.Set{{1, top - 1}}, class.Set{{0, 0}, {top, top}}},
		{class.Set{{0, 3}, {5, top}}, class.Set{{4, 4}}}, {class.Set{{0xd800, 0xdfff}}, class.Set{{0, 0xd7ff}, {0xe000, top}}},
	} {
		got, e := c.s.Not()
		checkSet(t, "Not", c.s, got, e, c.want)
		back, e := got.Not()
		checkSet(t, "Not", got, back, e, c.s)
	}
}

// P2.2: each choice among the numbers at both ends.
func TestNotOfSubsets(t *testing.T) {
	for _, s := range subsets(0, 8) {
		got, e := s.Not()
		want := append(number(0, 8, func(u int) bool { return u < 8 && !inAny(s, u) }), class.Range{Lo: 8, Hi: top})
		if len(want) > 1 && want[len(want)-2].Hi == 7 {
			want[len(want)-2].Hi = top
			want = want[:len(want)-1]
		}
		checkSet(t, "Not", s, got, e, want)
	}
	for _, s := range subsets(top-7, 8) {
		got, e := s.Not()
		want := number(top-8, top, func(u int) bool { return !inAny(s, u) })
		want[0].Lo = 0
		checkSet(t, "Not", s, got, e, want)
	}
}

// P2.2: each two choices among the same numbers.
func TestOrAndOfSubsets(t *testing.T) {
	for _, lo := range []int{0, top - 6} {
		sets := subsets(lo, 7)
		for _, s := range sets {
			for _, o := range sets {
				or, e := s.Or(o)
				checkSet(t, "Or", [2]class.Set{s, o}, or, e, number(lo, lo+6, func(u int) bool { return inAny(s, u) || inAny(o, u) }))
				and, e := s.And(o)
				checkSet(t, "And", [2]class.Set{s, o}, and, e, number(lo, lo+6, func(u int) bool { return inAny(s, u) && inAny(o, u) }))
			}
		}
	}
}

// P2.2.
func TestFold(t *testing.T) {
	for _, c := range []struct{ s, want class.Set }{
		{class.Set{{'a', 'b'}}, class.Set{{'A', 'B'}, {'a', 'b'}}},
		{class.Set{{'A', 'B'}}, class.Set{{'A', 'B'}, {'a', 'b'}}},
		{nil, nil}, {class.Set{}, nil}, {class.Set{{0, top}}, class.Set{{0, top}}},
		{class.Set{{'@', '@'}, {'[', '`'}, {'{', '{'}}, class.Set{{'@', '@'}, {'[', '`'}, {'{', '{'}}},
		{class.Set{{'@', 'A'}}, class.Set{{'@', 'A'}, {'a', 'a'}}}, {class.Set{{'Z', '['}}, class.Set{{'Z', '['}, {'z', 'z'}}},
		{class.Set{{'`', 'a'}}, class.Set{{'A', 'A'}, {'`', 'a'}}}, {class.Set{{'z', '{'}}, class.Set{{'Z', 'Z'}, {'z', '{'}}},
		{class.Set{{'Y', 'b'}}, class.Set{{'A', 'B'}, {'Y', 'b'}, {'y', 'z'}}},
		{class.Set{{'A', 'M'}, {'n', 'z'}}, class.Set{{'A', 'Z'}, {'a', 'z'}}},
		{class.Set{{'[', '`'}, {'c', 'z'}}, class.Set{{'C', '`'}, {'c', 'z'}}},
		{class.Set{{0, 'b'}}, class.Set{{0, 'z'}}},
		{class.Set{{0xc0, 0xde}, {0x130, 0x131}, {0x212a, 0x212a}, {0x110041, 0x110061}}, class.Set{{0xc0, 0xde}, {0x130, 0x131}, {0x212a, 0x212a}, {0x110041, 0x110061}}},
	} {
		got, e := c.s.Fold()
		checkSet(t, "Fold", c.s, got, e, c.want)
		again, e := got.Fold()
		checkSet(t, "Fold", got, again, e, c.want)
	}
}

// P2.2: each set of one or two ranges around the letters.
func TestFoldAroundLetters(t *testing.T) {
	ends := []int{'?', '@', 'A', 'B', 'M', 'Y', 'Z', '[', '\\', '_', '`', 'a', 'b', 'm', 'y', 'z', '{', '|'}
	for _, a := range ends {
		for _, b := range ends {
			for _, c := range ends {
				for _, d := range ends {
					s := class.Set{{a, b}, {c, d}}
					if !goodSet(s) {
						s = s[:1]
					}
					if !goodSet(s) {
						continue
					}
					got, e := s.Fold()
					checkSet(t, "Fold", s, got, e, number(0, 0x80, func(u int) bool { return inAny(s, u) || inAny(s, twinOf(u)) }))
				}
			}
		}
	}
}

// P2.2: sets of ranges from everywhere, held against all numbers one by one.
func TestEachNumber(t *testing.T) {
	x := uint32(7)
	next := func() int {
		x = x*1664525 + 1013904223
		return int(x >> 8)
	}
	ends := []int{0, 1, 'A' - 1, 'A', 'N', 'Z', 'a', 'n', 'z', 'z' + 1, 0x80, 0xd7ff, 0xd800, 0xe000, 0xffff, 0x10ffff, 0x110000, 0x11007f, 0x110080, top - 1, top}
	some := func() []class.Range {
		var ranges []class.Range
		for range next() % 5 {
			a, b := ends[next()%len(ends)], ends[next()%len(ends)]
			ranges = append(ranges, class.Range{Lo: min(a, b), Hi: max(a, b)})
		}
		return ranges
	}
	for range 40 {
		a, b := some(), some()
		s, e := class.Make(a...)
		checkSet(t, "Make", a, s, e, number(0, top, func(u int) bool { return inAny(a, u) }))
		o, e := class.Make(b...)
		checkSet(t, "Make", b, o, e, number(0, top, func(u int) bool { return inAny(b, u) }))
		not, e := s.Not()
		checkSet(t, "Not", s, not, e, number(0, top, func(u int) bool { return !inAny(a, u) }))
		or, e := s.Or(o)
		checkSet(t, "Or", [2]class.Set{s, o}, or, e, number(0, top, func(u int) bool { return inAny(a, u) || inAny(b, u) }))
		and, e := s.And(o)
		checkSet(t, "And", [2]class.Set{s, o}, and, e, number(0, top, func(u int) bool { return inAny(a, u) && inAny(b, u) }))
		fold, e := s.Fold()
		checkSet(t, "Fold", s, fold, e, number(0, top, func(u int) bool { return inAny(a, u) || u < 0x80 && inAny(a, twinOf(u)) }))
		if s.Count()+not.Count() != top+1 || or.Count()+and.Count() != s.Count()+o.Count() {
			t.Fatalf("%v %v count %d %d %d %d %d", s, o, s.Count(), not.Count(), or.Count(), and.Count(), o.Count())
		}
	}
}

// P2.2: sets that aren't normal, on either side.
func TestRefused(t *testing.T) {
	for _, s := range wrongSets() {
		not, e := s.Not()
		checkRefused(t, "Not", s, not, e, api.ErrForm)
		fold, e := s.Fold()
		checkRefused(t, "Fold", s, fold, e, api.ErrForm)
		for _, o := range []class.Set{nil, {{0, top}}, {{1, 3}, {5, 9}}, s} {
			for _, both := range [][2]class.Set{{s, o}, {o, s}} {
				or, e := both[0].Or(both[1])
				checkRefused(t, "Or", both, or, e, api.ErrForm)
				and, e := both[0].And(both[1])
				checkRefused(t, "And", both, and, e, api.ErrForm)
			}
		}
	}
}

// P2.3.
func TestTwin(t *testing.T) {
	for u := -2; u <= top+2; u++ {
		want := u
		if u < 0x100 {
			want = twinOf(u)
		}
		if got := class.Twin(u); got != want {
			t.Fatalf("%x: %x, not %x", u, got, want)
		}
	}
	for _, u := range []int{math.MinInt, math.MinInt + 'a', -'a', 'a' - 1<<32, 1<<8 + 'a', 1<<16 + 'A', 1<<32 + 'a', 1<<40 + 'Z', math.MaxInt} {
		if got := class.Twin(u); got != u {
			t.Errorf("%x: %x", u, got)
		}
	}
}

// P1: lists of many ranges end in good time, in whatever order they stand.
func TestManyRanges(t *testing.T) {
	const many = 1 << 18
	var falling, wide []class.Range
	for i := range many {
		falling = append(falling, class.Range{Lo: 4 * (many - i), Hi: 4*(many-i) + 1})
		wide = append(wide, class.Range{Lo: i, Hi: top - i})
	}
	s, e := class.Make(falling...)
	if e != api.OK || len(s) != many || !s.Normal() || s.Count() != 2*many || s[0].Lo != 4 {
		t.Fatalf("%d ranges, %d", len(s), e)
	}
	one, e := class.Make(wide...)
	checkSet(t, "Make", "wide ranges", one, e, class.Set{{0, top}})
	not, _ := s.Not()
	and, e := s.And(not)
	checkSet(t, "And", "a set and its Not", and, e, nil)
	or, e := s.Or(not)
	checkSet(t, "Or", "a set and its Not", or, e, class.Set{{0, top}})
}

// roomy is a set with spare room behind it, and all that it lies in.
func roomy() (s class.Set, room class.Set) {
	room = class.Set{{'a', 'b'}, {'x', 'y'}, {1, 2}, {3, 4}}
	return room[:2], room
}

// spoil writes over a set and all its spare room.
func spoil(s class.Set) {
	for i := range s[:cap(s)] {
		s[:cap(s)][i] = class.Range{Lo: -7, Hi: -7}
	}
}

// Rules that hold everywhere: what is handed in stays, and answers are new memory.
func TestMemory(t *testing.T) {
	calls := []struct {
		name string
		call func(s class.Set) (class.Set, api.Errno)
		want class.Set
	}{
		{"Make", func(s class.Set) (class.Set, api.Errno) { return class.Make(s...) }, class.Set{{'a', 'b'}, {'x', 'y'}}},
		{"Not", class.Set.Not, class.Set{{0, 'a' - 1}, {'c', 'w'}, {'z', top}}},
		{"Fold", class.Set.Fold, class.Set{{'A', 'B'}, {'X', 'Y'}, {'a', 'b'}, {'x', 'y'}}},
		{"Or itself", func(s class.Set) (class.Set, api.Errno) { return s.Or(s) }, class.Set{{'a', 'b'}, {'x', 'y'}}},
		{"Or none", func(s class.Set) (class.Set, api.Errno) { return s.Or(nil) }, class.Set{{'a', 'b'}, {'x', 'y'}}},
		{"none Or", func(s class.Set) (class.Set, api.Errno) { return class.Set(nil).Or(s) }, class.Set{{'a', 'b'}, {'x', 'y'}}},
		{"And itself", func(s class.Set) (class.Set, api.Errno) { return s.And(s) }, class.Set{{'a', 'b'}, {'x', 'y'}}},
		{"And all", func(s class.Set) (class.Set, api.Errno) { return s.And(class.Set{{0, top}}) }, class.Set{{'a', 'b'}, {'x', 'y'}}},
	}
	for _, c := range calls {
		s, room := roomy()
		before := slices.Clone(room)
		one, e := c.call(s)
		checkSet(t, c.name, before, one, e, c.want)
		two, _ := c.call(s)
		spoil(one)
		if !slices.Equal(room, before) {
			t.Fatalf("%s changed %v to %v, or shares it", c.name, before, room)
		}
		spoil(room)
		checkSet(t, c.name, before, two, e, c.want)
	}
}

// Rules that hold everywhere: ranges handed in stay in the order in which they stand.
func TestArgumentsStay(t *testing.T) {
	ranges := []class.Range{{5, 9}, {1, 2}, {3, 3}, {2, 7}}
	before := slices.Clone(ranges)
	s, e := class.Make(ranges...)
	checkSet(t, "Make", before, s, e, class.Set{{1, 9}})
	if !slices.Equal(ranges, before) {
		t.Errorf("Make changed %v to %v", before, ranges)
	}
}
