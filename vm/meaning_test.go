package vm_test

import (
	"regexp"
	"slices"
	"strings"
	"testing"

	"colander/api"
	"colander/parse"
	"colander/prog"
	"colander/shape"
	"colander/vm"
)

// caps are the ends of groups; each way through a pattern has its own.
type caps [20]int

// way is what goes on behind a node.
type way func(at int, c caps) bool

// meaning goes through a pattern's nodes themselves, without a program or a machine.
type meaning struct {
	u    []int
	fold bool
	left int
}

// find is where a pattern is first found, by its nodes; false, if it isn't. It gives up after so many nodes.
func (m *meaning) find(root parse.Node) (caps, bool) {
	for from := range len(m.u) + 1 {
		var c caps
		for n := range c {
			c[n] = -1
		}
		c[0] = from
		found := m.node(root, from, c, func(at int, end caps) bool {
			c = end
			c[1] = at
			return true
		})
		if found {
			return c, true
		}
	}
	return caps{}, false
}

// node tells whether there is a way over a node, and on.
func (m *meaning) node(n parse.Node, at int, c caps, on way) bool {
	if m.left--; m.left < 0 {
		return false
	}
	switch n.Kind {
	case parse.Empty:
		return on(at, c)
	case parse.Set:
		return at < len(m.u) && m.has(n, m.u[at]) && on(at+1, c)
	case parse.Cat:
		if len(n.Kids) == 0 {
			return on(at, c)
		}
		rest := n
		rest.Kids = n.Kids[1:]
		return m.node(n.Kids[0], at, c, func(at int, c caps) bool { return m.node(rest, at, c, on) })
	case parse.Alt:
		return slices.ContainsFunc(n.Kids, func(kid parse.Node) bool { return m.node(kid, at, c, on) })
	case parse.Repeat:
		if n.Mode == 2 {
			return m.alone(func(on way) bool { return m.repeat(n, at, c, on) }, on)
		}
		return m.repeat(n, at, c, on)
	case parse.Group:
		c[2*n.Ref] = at
		return m.node(n.Kids[0], at, c, func(at int, c caps) bool {
			c[2*n.Ref+1] = at
			return on(at, c)
		})
	case parse.Back:
		return m.back(n, at, c, on)
	case parse.Look:
		return m.look(n, at, c, on)
	case parse.Atomic:
		return m.alone(func(on way) bool { return m.node(n.Kids[0], at, c, on) }, on)
	}
	return m.edge(n.Ref, at) && on(at, c)
}

// alone takes the first way through a part, and no other one.
func (m *meaning) alone(part func(way) bool, on way) bool {
	end, kept := 0, caps{}
	return part(func(at int, c caps) bool {
		end, kept = at, c
		return true
	}) && on(end, kept)
}

func (m *meaning) has(n parse.Node, u int) bool {
	return n.Set.Has(u) || m.fold && n.Set.Has(flipped(u))
}

// repeat goes over a kid as often as it must be there, and then as often as it may.
func (m *meaning) repeat(n parse.Node, at int, c caps, on way) bool {
	kid, rest := n.Kids[0], n
	if n.Lo > 0 {
		rest.Lo--
		if n.Hi > 0 {
			rest.Hi--
		}
		return m.node(kid, at, c, func(at int, c caps) bool { return m.repeat(rest, at, c, on) })
	}
	if n.Hi == 0 {
		return on(at, c)
	}
	if n.Hi > 0 {
		rest.Hi--
	}
	more := func() bool {
		return m.node(kid, at, c, func(end int, c caps) bool {
			// Without an end, a round that takes nothing is none.
			return (n.Hi > 0 || end != at) && m.repeat(rest, end, c, on)
		})
	}
	if n.Mode == 1 {
		return on(at, c) || more()
	}
	return more() || on(at, c)
}

func (m *meaning) back(n parse.Node, at int, c caps, on way) bool {
	from, to := c[2*n.Ref], c[2*n.Ref+1]
	if from < 0 || to < 0 {
		return false
	}
	for ; from < to; from, at = from+1, at+1 {
		if at == len(m.u) || m.u[at] != m.u[from] && !(m.fold && m.u[at] == flipped(m.u[from])) {
			return false
		}
	}
	return on(at, c)
}

func (m *meaning) look(n parse.Node, at int, c caps, on way) bool {
	froms := []int{at}
	if n.Mode >= 2 {
		froms = nil
		least, greatest := shape.Width(n.Kids[0])
		for from := at - least; from >= max(0, at-greatest); from-- {
			froms = append(froms, from)
		}
	}
	var kept caps
	found := slices.ContainsFunc(froms, func(from int) bool {
		return m.node(n.Kids[0], from, c, func(end int, c caps) bool {
			kept = c
			return n.Mode < 2 || end == at
		})
	})
	if n.Mode == 1 || n.Mode == 3 {
		return !found && on(at, c)
	}
	return found && on(at, kept)
}

func (m *meaning) edge(ref, at int) bool {
	s := slow{u: m.u}
	return s.edge(ref, at)
}

// checkMeaning holds Find's answer against a pattern's nodes; it tells whether they could be gone through, and the Kind.
func checkMeaning(t *testing.T, pattern string, code []prog.Inst, text string) (bool, int) {
	t.Helper()
	p, _ := parse.Parse(pattern)
	r, e := vm.Find(code, units(text), whole)
	if e != api.OK {
		t.Fatalf("%q in %q: %d", pattern, text, e)
	}
	m := meaning{units(text), p.Fold, 20000}
	want, found := m.find(p.Root)
	if r.Kind == 2 || m.left < 0 {
		return false, r.Kind
	}
	if found != (r.Kind == 1) || found && !slices.Equal(r.Caps, want[:]) {
		t.Fatalf("%q in %q: %s, not %v %v", pattern, text, show(r, e), found, want)
	}
	return true, r.Kind
}

// P6.2: what is found of all patterns of up to four pieces is what their nodes say.
func TestShortMeanings(t *testing.T) {
	shortPatterns(4, func(pattern string, p []prog.Inst) {
		for _, text := range []string{"", "b", "aa", "abA", "baab", "a-ba"} {
			if ok, _ := checkMeaning(t, pattern, p, text); !ok {
				t.Fatalf("%q in %q is too much", pattern, text)
			}
		}
	})
}

// P6.2: what is found of long patterns is what their nodes say.
func TestLongMeanings(t *testing.T) {
	g := grower{99}
	told := map[int]int{}
	for range 30000 {
		pattern := g.one("", "(?i)") + g.grow(3) + "()()"
		if p, ok := readable(pattern); ok {
			if ok, kind := checkMeaning(t, pattern, p, g.text(10)); ok {
				told[kind]++
			}
		}
	}
	if told[0] < 5000 || told[1] < 5000 {
		t.Errorf("too few of one Kind: %v", told)
	}
}

// loopsOfSome tells whether no repeat in a node has a kid that may take nothing: of those the library says otherwise than the document.
func loopsOfSome(n parse.Node) bool {
	for _, kid := range n.Kids {
		if !loopsOfSome(kid) {
			return false
		}
		if least, _ := shape.Width(kid); n.Kind == parse.Repeat && least == 0 {
			return false
		}
	}
	return true
}

// growPlain is a row, or some, of what the library's patterns have, too.
func (g *grower) growPlain(deep int) string {
	text := ""
	for range 1 + g.next(3) {
		switch {
		case deep > 0 && g.next(5) > 1:
			text += g.one("(?:", "(", "(") + g.growPlain(deep-1) + ")"
		case g.next(4) == 0:
			text += g.one("b|", "|", "a|", "^", "$", `\b`, `\B`)
			continue
		default:
			text += g.one("a", "a", "b", "[-B]", ".", `\w`, "[A-a]")
		}
		if g.next(3) == 0 {
			text += g.one("*", "+", "?", "{0,2}", "{2,}", "{2}", "??", "+?", "*?", "{1,2}?")
		}
	}
	return text
}

// P6.2: what is found is what the library finds, of patterns that mean the same to it.
func TestLibrary(t *testing.T) {
	g := grower{5}
	told := map[int]int{}
	for range 20000 {
		pattern := g.one("", "(?i)") + g.growPlain(3)
		p, _ := parse.Parse(pattern)
		code, ok := readable(pattern)
		if !ok || !loopsOfSome(p.Root) {
			continue
		}
		text := strings.ReplaceAll(g.text(10), "\xff", "\n")
		r, e := vm.Find(code, units(text), whole)
		if r.Kind == 2 {
			continue
		}
		want := regexp.MustCompile(pattern).FindStringSubmatchIndex(text)
		if (r.Kind == 1) != (want != nil) || want != nil && !slices.Equal(r.Caps[:len(want)], want) {
			t.Fatalf("%q in %q: %s, not %v", pattern, text, show(r, e), want)
		}
		told[r.Kind]++
	}
	if told[0] < 2000 || told[1] < 2000 {
		t.Errorf("too few of one Kind: %v", told)
	}
}
