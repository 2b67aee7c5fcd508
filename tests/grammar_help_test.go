package tests

import (
	"math"
	"slices"
	"testing"

	"loop.example/g00758/impl"
)

// token writes a token as the symbol that stands for it.
func token(t int) int { return -1 - t }

func rule(left int, right ...int) impl.Rule {
	return impl.Rule{Left: left, Right: right}
}

func grammar(nons, toks int, rules ...impl.Rule) impl.Grammar {
	return impl.Grammar{Nons: nons, Toks: toks, Rules: rules}
}

// oddInts are numbers that no grammar here has as a symbol, a count or a place.
func oddInts() []int {
	return []int{math.MinInt, math.MinInt + 1, -1000, 17, 1000, math.MaxInt - 1, math.MaxInt}
}

// distinctRules gives up to 64 rules, no two the same, over two nonterminals and two tokens.
func distinctRules(count int) []impl.Rule {
	symbols := []int{0, 1, token(0), token(1)}
	var rules []impl.Rule
	for i := 0; i < count; i++ {
		rules = append(rules, rule(i%2, symbols[i/2%4], symbols[i/8%4], symbols[i/32%4]))
	}
	return rules
}

// goodGrammars are ordinary grammars and those that meet a limit exactly, by name.
func goodGrammars() map[string]impl.Grammar {
	return map[string]impl.Grammar{
		"pairs":         grammar(1, 2, rule(0, token(0), 0, token(1)), rule(0)),
		"sums":          grammar(3, 3, rule(0, 0, token(0), 1), rule(0, 1), rule(1, 1, token(1), 2), rule(1, 2), rule(2, token(2))),
		"no rules":      grammar(1, 1),
		"nil rules":     {Nons: 1, Toks: 1, Rules: nil},
		"empty rules":   {Nons: 1, Toks: 1, Rules: []impl.Rule{}},
		"empty middle":  grammar(2, 1, rule(0, 1, 1), rule(1), rule(0), rule(1, token(0))),
		"only empty":    grammar(1, 1, rule(0)),
		"unit round":    grammar(1, 1, rule(0, 0), rule(0, token(0))),
		"same rights":   grammar(2, 1, rule(0, token(0)), rule(1, token(0))),
		"same lefts":    grammar(1, 1, rule(0, token(0)), rule(0, token(0), token(0))),
		"most Nons":     grammar(6, 1, rule(5, 5, 0), rule(0, 5)),
		"most Toks":     grammar(1, 4, rule(0, token(3), token(0)), rule(0, 0, token(3))),
		"most rules":    grammar(2, 2, distinctRules(16)...),
		"longest Right": grammar(2, 1, rule(0, 1, token(0), 0, 1), rule(1), rule(0)),
		"all at most":   grammar(6, 4, append(distinctRules(15), rule(5, token(3), 5, token(3), 5))...),
	}
}

// badGrammars each break one demand of the document, by name.
func badGrammars() map[string]impl.Grammar {
	bad := map[string]impl.Grammar{
		"zero value":            {},
		"Nons 0":                grammar(0, 1),
		"Nons -1":               grammar(-1, 1),
		"Nons 7":                grammar(7, 1, rule(0, token(0))),
		"Toks 0":                grammar(1, 0, rule(0)),
		"Toks -1":               grammar(1, -1, rule(0)),
		"Toks 5":                grammar(1, 5, rule(0, token(0))),
		"17 rules":              grammar(2, 2, distinctRules(17)...),
		"Right of 5":            grammar(1, 1, rule(0), rule(0, 0, 0, 0, 0, 0)),
		"Right of 5 tokens":     grammar(1, 1, rule(0, token(0), token(0), token(0), token(0), token(0))),
		"same rule beside":      grammar(1, 1, rule(0, token(0)), rule(0, token(0))),
		"same rule apart":       grammar(2, 1, rule(1, 0, token(0)), rule(0), rule(1, token(0), 0), rule(1, 0, token(0))),
		"same empty rule":       {Nons: 1, Toks: 1, Rules: []impl.Rule{{Left: 0, Right: nil}, {Left: 0, Right: []int{}}}},
		"Left token":            grammar(1, 1, rule(token(0), 0)),
		"Left token last":       grammar(1, 1, rule(0), rule(token(0))),
		"Left is Nons":          grammar(2, 1, rule(2, token(0))),
		"Left is Nons of 6":     grammar(6, 1, rule(6)),
		"token is Toks":         grammar(1, 2, rule(0, token(2))),
		"token is Toks of 4":    grammar(1, 4, rule(0), rule(0, 0, token(4))),
		"nonterminal is Nons":   grammar(2, 1, rule(0, token(0), 2)),
		"nonterminal is MaxNon": grammar(6, 1, rule(0, 6)),
		"long Rules":            {Nons: 1, Toks: 1, Rules: make([]impl.Rule, 500)},
		"long Right":            {Nons: 1, Toks: 1, Rules: []impl.Rule{{Left: 0, Right: make([]int, 500)}}},
	}
	for _, x := range oddInts() {
		name := " of " + numberText(x)
		bad["Nons"+name] = grammar(x, 1, rule(0))
		bad["Toks"+name] = grammar(1, x, rule(0))
		bad["Left"+name] = grammar(6, 4, rule(0), rule(x))
		bad["symbol"+name] = grammar(6, 4, rule(0), rule(0, 0, x, token(0)))
	}
	return bad
}

func numberText(x int) string {
	switch x {
	case math.MinInt:
		return "least int"
	case math.MaxInt:
		return "greatest int"
	}
	sign := ""
	if x < 0 {
		sign, x = "-", -x
	}
	digits := ""
	for ; x > 0 || digits == ""; x /= 10 {
		digits = string(rune('0'+x%10)) + digits
	}
	return sign + digits
}

// sameParts compares field by field with the tests' own eyes; nil and empty lists are the same.
func sameParts(a, b impl.Grammar) bool {
	return a.Nons == b.Nons && a.Toks == b.Toks && slices.EqualFunc(a.Rules, b.Rules, func(x, y impl.Rule) bool {
		return x.Left == y.Left && slices.Equal(x.Right, y.Right)
	})
}

func isZeroGrammar(g impl.Grammar) bool {
	return g.Nons == 0 && g.Toks == 0 && len(g.Rules) == 0
}

func wantGrammar(t *testing.T, name string, got impl.Grammar, ok bool, want impl.Grammar) {
	t.Helper()
	if !ok || !sameParts(got, want) {
		t.Errorf("%s: got %v, %v; want %v, true", name, got, ok, want)
	}
}

func wantNoGrammar(t *testing.T, name string, got impl.Grammar, ok bool) {
	t.Helper()
	if ok || !isZeroGrammar(got) {
		t.Errorf("%s: got %v, %v; want the zero answer", name, got, ok)
	}
}

func wantList(t *testing.T, name string, got []int, ok bool, want ...int) {
	t.Helper()
	if !ok || !slices.Equal(got, want) {
		t.Errorf("%s: got %v, %v; want %v, true", name, got, ok, want)
	}
}

func wantNoList(t *testing.T, name string, got []int, ok bool) {
	t.Helper()
	if ok || len(got) != 0 {
		t.Errorf("%s: got %v, %v; want the zero answer", name, got, ok)
	}
}
