package impl

import "slices"

const MaxNon = 6
const MaxTok = 4
const MaxRules = 16
const MaxRight = 4
const MaxWord = 10

type Rule struct {
	Left  int
	Right []int
}

type Grammar struct {
	Nons  int
	Toks  int
	Rules []Rule
}

// The things that a grammar, a word, a binary grammar, a wave or a forest has a
// limited number of.
const (
	countNons = iota
	countToks
	countRules
	countRight
	countWord
	countParts
	countHands
	countPicks
	countNodes
	countEdges
)

type limit struct {
	least int
	most  int
}

// One table holds both ends of every limit, so that no check can forget one.
var limits = [...]limit{
	countNons:  {1, MaxNon},
	countToks:  {1, MaxTok},
	countRules: {0, MaxRules},
	countRight: {0, MaxRight},
	countWord:  {0, MaxWord},
	countParts: {1, MaxParts},
	countHands: {1, MaxHands},
	countPicks: {0, MaxPicks},
	countNodes: {0, MaxEdges},
	countEdges: {0, MaxEdges},
}

func withinLimit(what int, count int) bool {
	l := limits[what]
	return l.least <= count && count <= l.most
}

func isNon(g Grammar, x int) bool {
	return 0 <= x && x < g.Nons
}

func isToken(g Grammar, t int) bool {
	return 0 <= t && t < g.Toks
}

// isSymbol relies on -1 - x staying in range for every int, the least one too.
func isSymbol(g Grammar, x int) bool {
	return isNon(g, x) || isToken(g, -1-x)
}

func allSymbols(g Grammar, list []int) bool {
	for _, x := range list {
		if !isSymbol(g, x) {
			return false
		}
	}
	return true
}

func goodRight(g Grammar, right []int) bool {
	return withinLimit(countRight, len(right)) && allSymbols(g, right)
}

func goodRule(g Grammar, r Rule) bool {
	return isNon(g, r.Left) && goodRight(g, r.Right)
}

func isRuleNumber(g Grammar, rule int) bool {
	return 0 <= rule && rule < len(g.Rules)
}

func sameRule(a Rule, b Rule) bool {
	return a.Left == b.Left && slices.Equal(a.Right, b.Right)
}

func hasRule(rules []Rule, r Rule) bool {
	for _, other := range rules {
		if sameRule(other, r) {
			return true
		}
	}
	return false
}

func GoodGrammar(g Grammar) bool {
	if !withinLimit(countNons, g.Nons) || !withinLimit(countToks, g.Toks) {
		return false
	}
	if !withinLimit(countRules, len(g.Rules)) {
		return false
	}
	for i, r := range g.Rules {
		if !goodRule(g, r) || hasRule(g.Rules[:i], r) {
			return false
		}
	}
	return true
}

func goodTokens(g Grammar, w []int) bool {
	if !withinLimit(countWord, len(w)) {
		return false
	}
	for _, t := range w {
		if !isToken(g, t) {
			return false
		}
	}
	return true
}

func GoodWord(g Grammar, w []int) bool {
	return GoodGrammar(g) && goodTokens(g, w)
}

func RulesOf(g Grammar, non int) ([]int, bool) {
	if !GoodGrammar(g) || !isNon(g, non) {
		return nil, false
	}
	var numbers []int
	for i, r := range g.Rules {
		if r.Left == non {
			numbers = append(numbers, i)
		}
	}
	return numbers, true
}

func SizeOf(g Grammar) (int, bool) {
	if !GoodGrammar(g) {
		return 0, false
	}
	size := len(g.Rules)
	for _, r := range g.Rules {
		size += len(r.Right)
	}
	return size, true
}

// SameGrammar answers false at a grammar that is not good, even beside itself:
// such arguments have one fixed answer.
func SameGrammar(a Grammar, b Grammar) bool {
	if !GoodGrammar(a) || !GoodGrammar(b) {
		return false
	}
	return a.Nons == b.Nons && a.Toks == b.Toks && slices.EqualFunc(a.Rules, b.Rules, sameRule)
}

// copyList allocates just the length, so that nothing of the argument's spare
// memory can come along.
func copyList(list []int) []int {
	out := make([]int, len(list))
	copy(out, list)
	return out
}

func copyGrammar(g Grammar) Grammar {
	rules := make([]Rule, len(g.Rules))
	for i, r := range g.Rules {
		rules[i] = Rule{Left: r.Left, Right: copyList(r.Right)}
	}
	return Grammar{Nons: g.Nons, Toks: g.Toks, Rules: rules}
}

func ReverseOf(g Grammar) (Grammar, bool) {
	if !GoodGrammar(g) {
		return Grammar{}, false
	}
	out := copyGrammar(g)
	for _, r := range out.Rules {
		slices.Reverse(r.Right)
	}
	return out, true
}

// isRenaming wants 0 first because 0 must stay the start.
func isRenaming(g Grammar, to []int) bool {
	if len(to) != g.Nons || to[0] != 0 {
		return false
	}
	for k, x := range to {
		if !isNon(g, x) || slices.Contains(to[:k], x) {
			return false
		}
	}
	return true
}

func renamedRule(r Rule, to []int) Rule {
	right := copyList(r.Right)
	for i, x := range right {
		if x >= 0 {
			right[i] = to[x]
		}
	}
	return Rule{Left: to[r.Left], Right: right}
}

func RenameNons(g Grammar, to []int) (Grammar, bool) {
	if !GoodGrammar(g) || !isRenaming(g, to) {
		return Grammar{}, false
	}
	rules := make([]Rule, len(g.Rules))
	for i, r := range g.Rules {
		rules[i] = renamedRule(r, to)
	}
	return Grammar{Nons: g.Nons, Toks: g.Toks, Rules: rules}, true
}

func WithoutRule(g Grammar, rule int) (Grammar, bool) {
	if !GoodGrammar(g) || !isRuleNumber(g, rule) {
		return Grammar{}, false
	}
	out := copyGrammar(g)
	out.Rules = slices.Delete(out.Rules, rule, rule+1)
	return out, true
}
