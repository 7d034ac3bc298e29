package verdict_test

import (
	"slices"
	"strings"
	"testing"

	"colander/api"
	"colander/parse"
	"colander/rule"
	"colander/shape"
	"colander/verdict"
)

// What follows is the chapter a second time, by its own words: all verdicts are made, and the least ID is looked for among them.

// slowPattern is layer 3's fault, else layer 4's error, else OK.
func slowPattern(text string) verdict.Verdict {
	p, f := parse.Parse(text)
	v := verdict.Verdict{Code: f.Code, At: f.At}
	if f == (parse.Fault{}) {
		v = verdict.Verdict{Code: shape.Check(p)}
	}
	return v
}

// slowRules looks at all the rules, from the last one on.
func slowRules(s rule.Set) verdict.Verdict {
	if !s.Right() {
		return verdict.Verdict{Code: api.ErrForm}
	}
	v := verdict.Verdict{}
	for _, r := range slices.Backward(s.Rules) {
		one := slowPattern(r.Pattern)
		if one.Code != api.OK && (v.Rule == 0 || r.ID < v.Rule) {
			v = verdict.Verdict{Code: one.Code, Rule: r.ID, At: one.At}
		}
	}
	return v
}

// slowChange is what Change is due to answer.
func slowChange(s rule.Set, d rule.Delta) (rule.Set, verdict.Verdict) {
	changed, e := rule.Apply(s, d)
	v := verdict.Verdict{Code: e}
	if e == api.OK {
		v = slowRules(changed)
	}
	if v.Code != api.OK {
		changed = rule.Set{}
	}
	return changed, v
}

// pieces are what patterns are made of.
var pieces = []string{"a", "a*", "(", "(?:", "(?<=", "(?<!", "(?>", ")", "|", "*", "?", "a{33}", "(?:a{64})", "{64}", "{64,}", "[", "]", `\1`, `\d`, "^", "\u00e9"}

// P8.1: all patterns of up to three pieces.
func TestShortPatterns(t *testing.T) {
	texts, many := []string{""}, map[api.Errno]int{}
	for range 3 {
		var longer []string
		for _, text := range texts {
			for _, piece := range pieces {
				longer = append(longer, text+piece)
			}
		}
		for _, text := range longer {
			v := verdict.Pattern(text)
			if want := slowPattern(text); v != want {
				t.Fatalf("%q: %+v, not %+v", text, v, want)
			}
			many[v.Code]++
		}
		texts = longer
	}
	for _, e := range []api.Errno{api.OK, api.ErrSyntax, api.ErrClass, api.ErrRepeat, api.ErrRef, api.ErrWidth, api.ErrSize} {
		if many[e] < 4 {
			t.Errorf("the error %d came %d times", e, many[e])
		}
	}
}

// grower makes sets and changes, the same ones each time.
type grower struct{ x uint32 }

func (g *grower) below(n int) int {
	g.x = g.x*1664525 + 1013904223
	return int(g.x>>8) % n
}

// pattern mostly has OK.
func (g *grower) pattern() string {
	if g.below(12) > 0 {
		good := []string{"", "a", "a|b", "(a)\\1", "(?<=a{32})b", "a{64}", "(?i)[^a-z]", strings.Repeat("é", 128)}
		return good[g.below(len(good))]
	}
	bad := []string{"abc(", "a**", `ab\q`, "a[", "(?<=a*)", far, "(a)\\2", strings.Repeat("()", 10), strings.Repeat("(?>", 33), strings.Repeat("a", 257)}
	return bad[g.below(len(bad))]
}

// rules are right ones, but for some, with rising IDs, but for some.
func (g *grower) rules(most int) []rule.Rule {
	var list []rule.Rule
	for id := range 24 {
		if len(list) < most && g.below(2) > 0 {
			list = append(list, good(id+1, g.pattern()))
		}
	}
	if len(list) > 1 && g.below(12) == 0 {
		list[g.below(len(list))].ID = g.below(26)
	}
	return list
}

// delta names few IDs twice, and mostly drops what is there.
func (g *grower) delta(s rule.Set) rule.Delta {
	d := put(g.rules(g.below(12)))
	for i := range d.Put {
		j := g.below(i + 1)
		d.Put[i], d.Put[j] = d.Put[j], d.Put[i]
	}
	for _, r := range s.Rules {
		there := slices.ContainsFunc(d.Put, func(p rule.Rule) bool { return p.ID == r.ID })
		if g.below(3) == 0 && (!there || g.below(20) == 0) {
			d.Drop = append(d.Drop, r.ID)
		}
	}
	switch g.below(30) {
	case 0:
		d.Drop = append(d.Drop, 25)
	case 1:
		d.Fuel = g.below(2)
	}
	return d
}

// P8.1 and P8.2: many sets, and many changes of them.
func TestGrown(t *testing.T) {
	g := &grower{7}
	many := map[api.Errno]int{}
	for range 20000 {
		s := with(g.rules(1 + g.below(17))...)
		if got, want := verdict.Rules(s), slowRules(s); got != want {
			t.Fatalf("%+v: %+v, not %+v", s, got, want)
		}
		d := g.delta(s)
		due, want := slowChange(s, d)
		got, v := verdict.Change(s, d)
		if v != want || !same(got, due) {
			t.Fatalf("%+v to %+v: %+v %+v, not %+v %+v", d, s, got, v, due, want)
		}
		many[v.Code]++
	}
	for _, e := range []api.Errno{
		api.OK, api.ErrForm, api.ErrRule, api.ErrTwice, api.ErrNone, api.ErrFull, api.ErrSyntax, api.ErrEscape, api.ErrClass, api.ErrRepeat, api.ErrGroup, api.ErrDeep, api.ErrRef, api.ErrWidth, api.ErrSize,
	} {
		if many[e] < 10 {
			t.Errorf("the error %d came %d times", e, many[e])
		}
	}
}
