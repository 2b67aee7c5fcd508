package tests

import (
	"slices"
	"testing"

	"loop.example/g00758/impl"
)

// spans tells of each nonterminal, from and to whether it derives that part of
// a word; by the definition alone, repeated until nothing new comes.
type spans map[[3]int]bool

func spansOf(g impl.Grammar, w []int) spans {
	known := spans{}
	for before := -1; before < len(known); {
		before = len(known)
		for _, r := range g.Rules {
			for from := 0; from <= len(w); from++ {
				for _, to := range endsOf(known, r.Right, w, from) {
					known[[3]int{r.Left, from, to}] = true
				}
			}
		}
	}
	return known
}

// endsOf gives the places up to which the symbols derive the word from a place on.
func endsOf(known spans, right []int, w []int, from int) []int {
	if len(right) == 0 {
		return []int{from}
	}
	var ends []int
	for mid := from; mid <= len(w); mid++ {
		x := right[0]
		if x >= 0 && known[[3]int{x, from, mid}] || x < 0 && mid == from+1 && w[from] == -1-x {
			ends = append(ends, endsOf(known, right[1:], w, mid)...)
		}
	}
	return ends
}

func derives(g impl.Grammar, non int, w []int) bool {
	return spansOf(g, w)[[3]int{non, 0, len(w)}]
}

func wordsUpTo(toks, most int) [][]int {
	words := [][]int{{}}
	for at := 0; at < len(words); at++ {
		if len(words[at]) == most {
			break
		}
		for t := 0; t < toks; t++ {
			words = append(words, append(slices.Clone(words[at]), t))
		}
	}
	return words
}

// picker gives the same numbers at every run.
type picker struct{ state uint64 }

func (p *picker) pick(n int) int {
	p.state = p.state*6364136223846793005 + 1442695040888963407
	return int(p.state>>33) % n
}

func (p *picker) symbols(g impl.Grammar, count int) []int {
	list := []int{}
	for range count {
		list = append(list, p.pick(g.Nons+g.Toks)-g.Toks)
	}
	return list
}

// someGrammars makes the same many good grammars at every run.
func someGrammars(count int) []impl.Grammar {
	return pickedGrammars(count, 3, 8, 5)
}

// pickedGrammars makes them with at most nons nonterminals, and with fewer than
// rules rules whose Rights have fewer than right symbols.
func pickedGrammars(count, nons, rules, right int) []impl.Grammar {
	p := picker{1}
	var out []impl.Grammar
	for len(out) < count {
		g := grammar(1+p.pick(nons), 1+p.pick(2))
		for n := p.pick(rules); n > 0; n-- {
			left := p.pick(g.Nons)
			g.Rules = append(g.Rules, rule(left, p.symbols(g, p.pick(right))...))
		}
		if impl.GoodGrammar(g) {
			out = append(out, g)
		}
	}
	return out
}

func reversed(w []int) []int {
	out := slices.Clone(w)
	slices.Reverse(out)
	return out
}

func wordGrammars() []impl.Grammar {
	return append(someGrammars(600),
		goodGrammars()["pairs"], goodGrammars()["sums"], goodGrammars()["empty middle"], goodGrammars()["longest Right"],
		grammar(2, 3, rule(0, token(0), 1), rule(1, token(1), 1, token(2)), rule(1)))
}

// Promise 1.
func TestReversedGrammarDerivesReversedWords(t *testing.T) {
	derived := 0
	for _, g := range wordGrammars() {
		r, ok := impl.ReverseOf(g)
		if !ok {
			t.Fatal("no reversed grammar of", g)
		}
		for _, w := range wordsUpTo(g.Toks, 4) {
			for non := 0; non < g.Nons; non++ {
				in := derives(g, non, w)
				if in {
					derived++
				}
				if derives(r, non, reversed(w)) != in {
					t.Fatal(g, r, non, w, in)
				}
			}
		}
	}
	if derived < 1000 {
		t.Error("too few words derived to tell:", derived)
	}
}

func TestRenamedGrammarDerivesTheSameWords(t *testing.T) {
	for _, g := range wordGrammars() {
		to := []int{0}
		for k := g.Nons - 1; k > 0; k-- {
			to = append(to, k)
		}
		r, ok := impl.RenameNons(g, to)
		if !ok || !impl.GoodGrammar(r) {
			t.Fatal("no renamed grammar of", g)
		}
		for _, w := range wordsUpTo(g.Toks, 3) {
			for non := 0; non < g.Nons; non++ {
				if derives(g, non, w) != derives(r, to[non], w) {
					t.Fatal(g, r, non, w)
				}
			}
		}
	}
}

func TestRulesOfTellsEachRuleOnce(t *testing.T) {
	for _, g := range append(someGrammars(150), goodGrammars()["all at most"]) {
		var all []int
		for non := 0; non < g.Nons; non++ {
			l, ok := impl.RulesOf(g, non)
			if !ok || !slices.IsSorted(l) {
				t.Fatal(g, non, l, ok)
			}
			for _, n := range l {
				if g.Rules[n].Left != non {
					t.Fatal(g, non, l)
				}
			}
			all = append(all, l...)
		}
		slices.Sort(all)
		if len(all) != len(g.Rules) || len(slices.Compact(all)) != len(g.Rules) {
			t.Fatal(g, all)
		}
	}
}
