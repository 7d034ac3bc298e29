package vm_test

import (
	"fmt"
	"slices"
	"testing"

	"colander/api"
	"colander/class"
	"colander/parse"
	"colander/prog"
	"colander/vm"
)

// state is where a run is: each has slots of its own, which are never written to.
type state struct {
	place, at int
	slots     []int
}

// with is a state one place further, with a slot set.
func (s state) with(slot, to int) state {
	s.slots = slices.Clone(s.slots)
	s.slots[slot] = to
	s.place++
	return s
}

// slow is a second machine: it keeps whole states as choices, in a list for each run.
type slow struct {
	p                  []prog.Inst
	u                  []int
	b                  vm.Budget
	steps, deep, there int
}

// What becomes of an instruction, or a run.
const (
	fails = iota
	wins
	ends
	goes
)

// slowRun is what Run is due to answer, of a call that is right.
func slowRun(p []prog.Inst, u []int, from int, b vm.Budget) vm.Result {
	s := slow{p: p, u: u, b: b}
	return s.answer(s.from(from))
}

// slowFind is what Find is due to answer, of a call that is right.
func slowFind(p []prog.Inst, u []int, b vm.Budget) vm.Result {
	s := slow{p: p, u: u, b: b}
	for from := range len(u) {
		if kind, slots := s.from(from); kind != fails {
			return s.answer(kind, slots)
		}
	}
	return s.answer(s.from(len(u)))
}

func (s *slow) answer(kind int, slots []int) vm.Result {
	r := vm.Result{Kind: kind, Steps: s.steps, Deep: s.deep}
	if kind == wins {
		r.Caps = slots[:20]
	}
	return r
}

// from is what comes of a run of the whole at a position.
func (s *slow) from(at int) (int, []int) {
	slots := slices.Repeat([]int{-1}, 20)
	for _, i := range s.p {
		if i.Op == 10 {
			slots = append(slots, -1)
		}
	}
	kind, end := s.run(state{0, at, slots}, false, 0)
	return kind, end.slots
}

// run is what comes of a run, and the state at its end: that of its beginning, if it fails.
func (s *slow) run(began state, targeted bool, target int) (int, state) {
	now := began
	var choices []state
	for {
		if s.steps == s.b.Fuel {
			return ends, state{}
		}
		s.steps++
		i := s.p[now.place]
		if i.Op == 3 {
			if s.there == s.b.Stack {
				return ends, state{}
			}
			s.there++
			s.deep = max(s.deep, s.there)
			choices = append(choices, state{i.B, now.at, now.slots})
		}
		kind, then := s.do(i, now, targeted, target)
		switch kind {
		case ends:
			return ends, state{}
		case wins:
			s.there -= len(choices)
			return wins, then
		case goes:
			now = then
			continue
		}
		if len(choices) == 0 {
			return fails, began
		}
		s.there--
		now = choices[len(choices)-1]
		choices = choices[:len(choices)-1]
	}
}

// do is what comes of one instruction.
func (s *slow) do(i prog.Inst, now state, targeted bool, target int) (int, state) {
	on := now
	on.place++
	switch i.Op {
	case 0:
		return wins, now
	case 1:
		on.at++
		return when(now.at < len(s.u) && slices.ContainsFunc(i.Set, func(r class.Range) bool { return r.Lo <= s.u[now.at] && s.u[now.at] <= r.Hi })), on
	case 2, 3:
		on.place = i.A
		return goes, on
	case 4:
		return goes, now.with(i.A, now.at)
	case 5:
		return s.back(i, on)
	case 6:
		return when(s.edge(i.A, now.at)), on
	case 7:
		return s.look(i, now)
	case 8:
		kind, end := s.run(on, false, 0)
		if kind == wins {
			end.place, kind = i.B, goes
		}
		return kind, end
	case 9:
		if targeted && now.at != target {
			return fails, now
		}
		return wins, now
	case 10:
		return goes, now.with(20+i.A, now.at)
	}
	return when(now.slots[20+i.A] != now.at), on
}

// when is that a run goes on, if so.
func when(so bool) int {
	if so {
		return goes
	}
	return fails
}

func (s *slow) back(i prog.Inst, on state) (int, state) {
	from, to := on.slots[2*i.A], on.slots[2*i.A+1]
	if from == -1 || to == -1 {
		return fails, on
	}
	for ; from < to; from++ {
		if on.at == len(s.u) {
			return fails, on
		}
		had, has := s.u[from], s.u[on.at]
		if had != has && (i.B != 1 || flipped(had) != has) {
			return fails, on
		}
		on.at++
	}
	return goes, on
}

// flipped is a letter's twin.
func flipped(u int) int {
	if isIn(u, "abcdefghijklmnopqrstuvwxyzABCDEFGHIJKLMNOPQRSTUVWXYZ") {
		return u ^ 0x20
	}
	return u
}

// isIn tells whether a unit is one of a text's bytes.
func isIn(u int, text string) bool {
	return slices.ContainsFunc([]byte(text), func(b byte) bool { return int(b) == u })
}

func (s *slow) edge(ref, at int) bool {
	const word = "abcdefghijklmnopqrstuvwxyzABCDEFGHIJKLMNOPQRSTUVWXYZ0123456789_"
	ahead := at > 0 && isIn(s.u[at-1], word)
	behind := at < len(s.u) && isIn(s.u[at], word)
	switch ref {
	case 0:
		return at == 0
	case 1:
		return at == len(s.u)
	case 2:
		return ahead && !behind || behind && !ahead
	}
	return ahead && behind || !ahead && !behind
}

func (s *slow) look(i prog.Inst, now state) (int, state) {
	begin := state{now.place + 1, now.at, now.slots}
	kind, end := fails, now
	if i.A < 2 {
		kind, end = s.run(begin, false, 0)
	}
	for w := i.C; i.A >= 2 && w <= i.D && kind == fails; w++ {
		if w <= now.at {
			begin.at = now.at - w
			kind, end = s.run(begin, true, now.at)
		}
	}
	not := i.A == 1 || i.A == 3
	switch {
	case kind == ends:
		return ends, now
	case kind == wins && !not:
		return goes, state{i.B, now.at, end.slots}
	case kind == fails && not:
		return goes, state{i.B, now.at, now.slots}
	}
	return fails, now
}

// checkSlow holds an answer against the slow machine's.
func checkSlow(t *testing.T, name string, b vm.Budget, want vm.Result, got vm.Result, e api.Errno) {
	t.Helper()
	if show(got, e) != show(want, api.OK) {
		t.Fatalf("%s, with %+v: %s, not %s", name, b, show(got, e), show(want, api.OK))
	}
}

// checkBudgets holds Run's answers at all positions, and Find's, against the slow machine's, with budgets around what they cost; it tells of which Kind Find's answer with the first budget is.
func checkBudgets(t *testing.T, pattern string, p []prog.Inst, text string, first vm.Budget) int {
	t.Helper()
	u := units(text)
	told := 0
	for from := -1; from <= len(u); from++ {
		name, quick, sure := fmt.Sprintf("%q over %q at %d", pattern, text, from), at(from), func(b vm.Budget) vm.Result { return slowRun(p, u, from, b) }
		if from < 0 {
			name, quick, sure = fmt.Sprintf("%q in %q", pattern, text), vm.Find, func(b vm.Budget) vm.Result { return slowFind(p, u, b) }
		}
		r, e := quick(p, u, first)
		checkSlow(t, name, first, sure(first), r, e)
		if from < 0 {
			told = r.Kind
		}
		for _, b := range []vm.Budget{{r.Steps, r.Deep}, {r.Steps - 1, r.Deep}, {r.Steps, r.Deep - 1}, {r.Steps/2 + 1, r.Deep}, {r.Steps, r.Deep / 2}} {
			if b.Fuel > 0 && b.Stack >= 0 {
				got, e := quick(p, u, b)
				checkSlow(t, name, b, sure(b), got, e)
			}
		}
	}
	return told
}

// readable is a pattern's program, and whether it has one.
func readable(pattern string) ([]prog.Inst, bool) {
	p, f := parse.Parse(pattern)
	if f != (parse.Fault{}) {
		return nil, false
	}
	code, e := prog.Compile(p)
	return code, e == api.OK
}

// pieces are what patterns are made of.
var pieces = []string{"a", "b", "(", "(?:", "(?=", "(?!", "(?<=", "(?<!", "(?>", ")", "|", "*", "+", "?", "*?", "++", "{2}", `\1`, "$", `\b`, "(?i)"}

// shortPatterns gives all patterns of up to so many pieces that have a program.
func shortPatterns(most int, yield func(pattern string, p []prog.Inst)) {
	texts := []string{""}
	for range most {
		var longer []string
		for _, text := range texts {
			for _, piece := range pieces {
				longer = append(longer, text+piece)
			}
		}
		for _, text := range longer {
			if p, ok := readable(text); ok {
				yield(text, p)
			}
		}
		texts = longer
	}
}

// P6.1 and P6.2: all patterns of up to four pieces.
func TestShortPatterns(t *testing.T) {
	patterns := 0
	shortPatterns(4, func(pattern string, p []prog.Inst) {
		patterns++
		for _, text := range []string{"", "a", "ab", "bA", "aab", "a-b"} {
			checkBudgets(t, pattern, p, text, vm.Budget{Fuel: 300, Stack: 20})
		}
	})
	if patterns < 1000 {
		t.Errorf("only %d can be read", patterns)
	}
}

// grower makes patterns whose parentheses are all closed, and texts.
type grower struct{ x uint32 }

func (g *grower) next(n int) int {
	g.x = g.x*1664525 + 1013904223
	return int(g.x>>8) % n
}

func (g *grower) one(of ...string) string { return of[g.next(len(of))] }

// grow is a row, or some; those of looks are without quantifiers, as these may have none.
func (g *grower) grow(deep int) string {
	text := ""
	for range 1 + g.next(3) {
		switch {
		case deep > 0 && g.next(5) == 0:
			text += g.one("(?=", "(?!", "(?<=", "(?<!") + g.grow(deep-1) + ")"
			continue
		case deep > 0 && g.next(5) > 1:
			text += g.one("(?:", "(", "(", "(?>") + g.grow(deep-1) + ")"
		case g.next(4) == 0:
			text += g.one("b|", "|", "a|", "^", "$", `\b`, `\B`)
			continue
		default:
			text += g.one("a", "a", "b", "[^b]", ".", `\1`, `\2`, "(?:)")
		}
		if g.next(3) == 0 {
			text += g.one("*", "+", "?", "{0,2}", "{2,}", "{2}", "??", "+?", "*?", "*+", "{1,2}?", "{1,2}+")
		}
	}
	return text
}

// text is a text of up to so many units.
func (g *grower) text(most int) string {
	text := ""
	for range g.next(most + 1) {
		text += g.one("a", "a", "b", "b", "A", "B", "-", "\xff")
	}
	return text
}

// P6.1 and P6.2: long patterns.
func TestLongPatterns(t *testing.T) {
	g := grower{7}
	told := map[int]int{}
	for range 15000 {
		pattern := g.one("", "(?i)") + g.grow(3) + "()()"
		if p, ok := readable(pattern); ok {
			for range 3 {
				told[checkBudgets(t, pattern, p, g.text(8), vm.Budget{Fuel: 3000, Stack: 30})]++
			}
		}
	}
	if told[0] < 10000 || told[1] < 10000 || told[2] < 10 {
		t.Errorf("too few of one Kind: %v", told)
	}
}
