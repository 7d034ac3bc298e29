package prog_test

import (
	"slices"
	"testing"

	"colander/api"
	"colander/class"
	"colander/parse"
	"colander/prog"
	"colander/shape"
)

// slow is the program that Compile is due to answer: each node's code is laid by itself, as if it began at 0, and moved to where it stands; the loops get their numbers at the end.
func slow(p parse.Pattern) []prog.Inst {
	l := layer{p.Fold}
	return numbered(join(one(prog.Inst{Op: 4}), l.code(p.Root), one(prog.Inst{Op: 4, A: 1}), one(prog.Inst{})))
}

// layer lays codes.
type layer struct{ fold bool }

func one(i prog.Inst) []prog.Inst { return []prog.Inst{i} }

// join is codes, one behind the other.
func join(codes ...[]prog.Inst) []prog.Inst {
	var all []prog.Inst
	for _, code := range codes {
		by := len(all)
		for _, i := range code {
			all = append(all, moved(i, by))
		}
	}
	return all
}

// moved is an instruction whose places are further by so many.
func moved(i prog.Inst, by int) prog.Inst {
	switch i.Op {
	case 2:
		i.A += by
	case 3:
		i.A, i.B = i.A+by, i.B+by
	case 7, 8:
		i.B += by
	}
	return i
}

// numbered is a program whose loops have their numbers: each Guard has that of the last Mark that has none yet.
func numbered(p []prog.Inst) []prog.Inst {
	var open []int
	next := 0
	for at := range p {
		switch p[at].Op {
		case 10:
			p[at].A = next
			open = append(open, next)
			next++
		case 11:
			p[at].A = open[len(open)-1]
			open = open[:len(open)-1]
		}
	}
	return p
}

// code is a node's code, as if it began at 0.
func (l layer) code(n parse.Node) []prog.Inst {
	if shape.Size(n) == 0 {
		return nil
	}
	switch n.Kind {
	case 1:
		return one(prog.Inst{Op: 1, Set: l.set(n.Set)})
	case 2:
		var all []prog.Inst
		for _, kid := range n.Kids {
			all = join(all, l.code(kid))
		}
		return all
	case 3:
		return l.alternatives(n.Kids)
	case 4:
		if n.Mode == 2 {
			return closed(prog.Inst{Op: 8}, l.repeated(n))
		}
		return l.repeated(n)
	case 5:
		return join(one(prog.Inst{Op: 4, A: n.Ref + n.Ref}), l.code(n.Kids[0]), one(prog.Inst{Op: 4, A: n.Ref + n.Ref + 1}))
	case 6:
		return one(prog.Inst{Op: 5, A: n.Ref, B: map[bool]int{true: 1}[l.fold]})
	case 7:
		i := prog.Inst{Op: 7, A: n.Mode}
		if n.Mode > 1 {
			lo, hi := exactWidth(n.Kids[0])
			i.C, i.D = lo, hi
		}
		return closed(i, l.code(n.Kids[0]))
	case 8:
		return closed(prog.Inst{Op: 8}, l.code(n.Kids[0]))
	}
	return one(prog.Inst{Op: 6, A: n.Ref})
}

// set is a set's numbers and, of a pattern that is folded, each letter whose twin is one of them.
func (l layer) set(s class.Set) class.Set {
	all := append(class.Set{}, s...)
	for u := 'A'; l.fold && u <= 'Z'; u++ {
		small, great := int(u-'A'+'a'), int(u)
		if s.Has(small) || s.Has(great) {
			all = append(all, class.Range{Lo: small, Hi: small}, class.Range{Lo: great, Hi: great})
		}
	}
	normal, _ := class.Make(all...)
	return normal
}

// closed is an instruction up to behind, a code, and Done.
func closed(i prog.Inst, code []prog.Inst) []prog.Inst {
	i.B = len(code) + 2
	return join(one(i), code, one(prog.Inst{Op: 9}))
}

// alternatives is the first kid's code, with Split and Jump, and that of all the others behind it.
func (l layer) alternatives(kids []parse.Node) []prog.Inst {
	first := l.code(kids[0])
	if len(kids) == 1 {
		return first
	}
	rest := l.alternatives(kids[1:])
	jump := prog.Inst{Op: 2, A: len(rest) + 1}
	return join(one(prog.Inst{Op: 3, A: 1, B: len(first) + 2}), first, one(jump), rest)
}

// repeated is a Repeat's code, as if it weren't possessive.
func (l layer) repeated(n parse.Node) []prog.Inst {
	x := l.code(n.Kids[0])
	var all []prog.Inst
	for range n.Lo {
		all = join(all, x)
	}
	if n.Hi == -1 {
		split := forked(1, len(x)+4, n.Mode)
		jump := []prog.Inst{{Op: 2, A: -len(x) - 3}}
		return join(all, join(one(split), one(prog.Inst{Op: 10}), x, one(prog.Inst{Op: 11}), jump))
	}
	// From the last one on: each time that may be left out leads to behind all of them.
	var options []prog.Inst
	for range n.Hi - n.Lo {
		options = join(one(forked(1, len(x)+1+len(options), n.Mode)), x, options)
	}
	return join(all, options)
}

// forked is a Split that leads in or out, or the other way round.
func forked(in, out, mode int) prog.Inst {
	if mode == 1 {
		in, out = out, in
	}
	return prog.Inst{Op: 3, A: in, B: out}
}

// exactWidth is a node's widths, of one that has an end.
func exactWidth(n parse.Node) (lo, hi int) {
	switch n.Kind {
	case 1:
		return 1, 1
	case 2, 3, 5, 8:
		for at, kid := range n.Kids {
			kidLo, kidHi := exactWidth(kid)
			if n.Kind == 3 && at > 0 {
				lo, hi = min(lo, kidLo), max(hi, kidHi)
			} else {
				lo, hi = lo+kidLo, hi+kidHi
			}
		}
	case 4:
		lo, hi = exactWidth(n.Kids[0])
		return lo * n.Lo, hi * max(n.Hi, 0)
	}
	return lo, hi
}

// same holds two instructions against each other; nil and empty sets are one.
func same(i, o prog.Inst) bool {
	return i.Op == o.Op && i.A == o.A && i.B == o.B && i.C == o.C && i.D == o.D && slices.Equal(i.Set, o.Set)
}

// marks is how many Marks a program has whose loops have the numbers that they are due.
func marks(p []prog.Inst) int {
	count := 0
	for _, i := range p {
		if i.Op == 10 {
			count = max(count, i.A+1)
		}
	}
	return count
}

// checkSlow holds a pattern's program against the slow one; it tells whether the pattern can be read, and the answer.
func checkSlow(t *testing.T, text string) (bool, api.Errno) {
	t.Helper()
	p, f := parse.Parse(text)
	if f != (parse.Fault{}) {
		return false, api.OK
	}
	got, e := prog.Compile(p)
	if e != shape.Check(p) {
		t.Fatalf("%q: %d, not %d", text, e, shape.Check(p))
	}
	if e != api.OK {
		if len(got) != 0 {
			t.Fatalf("%q: %d, and %s", text, e, showAll(got))
		}
		return true, e
	}
	want := slow(p)
	if !slices.EqualFunc(got, want, same) || len(got) != shape.Size(p.Root)+3 {
		t.Fatalf("%q:\n%s, not\n%s", text, showAll(got), showAll(want))
	}
	if loops := prog.Loops(got); loops != marks(want) {
		t.Fatalf("%q: %d loops, not %d", text, loops, marks(want))
	}
	return true, e
}

// pieces are what patterns are made of.
var pieces = []string{"a", "(", "(?:", "(?=", "(?<=", "(?<!", "(?>", ")", "|", "*", "+", "?", "{0}", "{1,2}", "{3}", "{2,}", `\1`, "^", "(?i)"}

// P5.1 and P5.2: all patterns of up to four pieces.
func TestShortPatterns(t *testing.T) {
	texts, right := []string{""}, 0
	for range 4 {
		var longer []string
		for _, text := range texts {
			for _, piece := range pieces {
				longer = append(longer, text+piece)
			}
		}
		for _, text := range longer {
			if ok, _ := checkSlow(t, text); ok {
				right++
			}
		}
		texts = longer
	}
	if right < 1000 {
		t.Errorf("only %d can be read", right)
	}
}

// grower makes patterns whose parentheses are all closed.
type grower struct{ x uint32 }

func (g *grower) next(n int) int {
	g.x = g.x*1664525 + 1013904223
	return int(g.x>>8) % n
}

func (g *grower) one(of ...string) string { return of[g.next(len(of))] }

// grow is a row, or some; those of looks are without quantifiers, as these may have none.
func (g *grower) grow(deep int) string {
	text := ""
	for range 1 + g.next(3) {
		switch {
		case deep > 0 && g.next(6) == 0:
			text += g.one("(?=", "(?!", "(?<=", "(?<!") + g.grow(deep-1) + ")"
			continue
		case deep > 0 && g.next(5) > 1:
			text += g.one("(?:", "(?:", "(", "(?>") + g.grow(deep-1) + ")"
		case g.next(4) == 0:
			text += g.one("b|", "|", "^", `\b`)
			continue
		default:
			text += g.one("a", "[^b]", ".", `\1`, "(?:$)", "(?:)")
		}
		if g.next(2) == 0 {
			text += g.one("*", "+", "?", "{0}", "{1}", "{2,}", "{0,3}", "{5}", "{2,4}", "??", "+?", "*?", "*+", "{2,4}?", "{3}+", "{31,33}", "{64}")
		}
	}
	return text
}

// P5.1 and P5.2: long patterns.
func TestLongPatterns(t *testing.T) {
	g := grower{7}
	told := map[api.Errno]int{}
	for range 10000 {
		if ok, e := checkSlow(t, g.one("", "(?i)")+g.grow(4)+"()"); ok {
			told[e]++
		}
	}
	if told[api.OK] < 4000 || told[api.ErrWidth] < 1000 || told[api.ErrSize] < 300 {
		t.Errorf("too few of one kind: %v", told)
	}
}
