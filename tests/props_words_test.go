package tests

import (
	"math/big"
	"slices"
	"testing"

	"loop.example/g00758/impl"
)

// lengths has for each nonterminal a bit for each length of a word that it derives.
type lengths []*big.Int

// lengthsOf finds those up to most by the definition alone, repeated until
// nothing new comes.
func lengthsOf(g impl.Grammar, most int) lengths {
	found := lengths{}
	for range g.Nons {
		found = append(found, new(big.Int))
	}
	for again := true; again; {
		again = false
		for _, r := range g.Rules {
			more := new(big.Int).Or(found[r.Left], found.rightOf(r.Right, most))
			again = again || more.Cmp(found[r.Left]) != 0
			found[r.Left] = more
		}
	}
	return found
}

func (l lengths) rightOf(right []int, most int) *big.Int {
	mask := new(big.Int).Lsh(big.NewInt(1), uint(most+1))
	mask.Sub(mask, big.NewInt(1))
	sum := big.NewInt(1)
	for _, x := range right {
		part := big.NewInt(2)
		if x >= 0 {
			part = l[x]
		}
		next := new(big.Int)
		for n := 0; n < sum.BitLen(); n++ {
			if sum.Bit(n) == 1 {
				next.Or(next, new(big.Int).Lsh(part, uint(n)))
			}
		}
		sum = next.And(next, mask)
	}
	return sum
}

// pumpLength is as long as a word can be whose tree has no nonterminal twice on
// a way down. A language with a longer word has one that is longer by no more
// than what a tree one higher has, and then it has words without end.
func pumpLength(g impl.Grammar) (plain, most int) {
	longest := 1
	for _, r := range g.Rules {
		longest = max(longest, len(r.Right))
	}
	plain = 1
	for range g.Nons {
		plain *= longest
	}
	return plain, plain + plain*longest
}

// wantedProps finds by the lengths of words what chapter 3 tells.
func wantedProps(g impl.Grammar) propsAnswers {
	plain, most := pumpLength(g)
	found := lengthsOf(g, most)
	a := propsAnswers{Useful: wantedUseful(g, found)}
	for non, set := range found {
		if set.Bit(0) == 1 {
			a.Nullable = append(a.Nullable, non)
		}
		if set.Sign() != 0 {
			a.Productive = append(a.Productive, non)
		}
		if set.BitLen() > 1 {
			a.Growing = append(a.Growing, non)
		}
		if isReached(g.Rules, non, g.Nons) {
			a.Reached = append(a.Reached, non)
		}
	}
	a.Finite = found[0].BitLen() <= plain+1
	if found[0].Sign() != 0 {
		a.Least, a.LeastOk = int(found[0].TrailingZeroBits()), true
	}
	a.IsUseful = sameParts(g, a.Useful)
	a.NullableOk, a.ProductiveOk, a.ReachedOk, a.GrowingOk = true, true, true, true
	a.UsefulOk, a.IsUsefulOk, a.FiniteOk = true, true, true
	return a
}

// isReached goes backwards, from a nonterminal to the start, in so many steps at most.
func isReached(rules []impl.Rule, non, steps int) bool {
	if non == 0 {
		return true
	}
	return steps > 0 && slices.ContainsFunc(rules, func(r impl.Rule) bool {
		return slices.Contains(r.Right, non) && r.Left != non && isReached(rules, r.Left, steps-1)
	})
}

// wantedUseful does what the document says, word by word.
func wantedUseful(g impl.Grammar, found lengths) impl.Grammar {
	first := grammar(g.Nons, g.Toks)
	for _, r := range g.Rules {
		unproductive := func(x int) bool { return x >= 0 && found[x].Sign() == 0 }
		if isReached(g.Rules, r.Left, g.Nons) && !unproductive(r.Left) && !slices.ContainsFunc(r.Right, unproductive) {
			first.Rules = append(first.Rules, r)
		}
	}
	second := grammar(g.Nons, g.Toks)
	for _, r := range first.Rules {
		if isReached(first.Rules, r.Left, g.Nons) {
			second.Rules = append(second.Rules, r)
		}
	}
	return second
}

// smallGrammars are all those with two nonterminals and one token that have at
// most three rules with at most two symbols each.
func smallGrammars() []impl.Grammar {
	symbols := []int{0, 1, token(0)}
	var rules []impl.Rule
	for left := range 2 {
		rules = append(rules, rule(left))
		for _, x := range symbols {
			rules = append(rules, rule(left, x))
			for _, y := range symbols {
				rules = append(rules, rule(left, x, y))
			}
		}
	}
	out := []impl.Grammar{grammar(2, 1)}
	for i, a := range rules {
		out = append(out, grammar(2, 1, a))
		for j, b := range rules[:i] {
			out = append(out, grammar(2, 1, a, b))
			for _, c := range rules[:j] {
				out = append(out, grammar(2, 1, a, b, c))
			}
		}
	}
	return out
}

// propsGrammars are small ones, and larger ones of which much falls away.
func propsGrammars() []impl.Grammar {
	all := append(smallGrammars(), someGrammars(400)...)
	all = append(all, pickedGrammars(600, 6, 17, 3)...)
	for _, c := range propsCases() {
		if _, most := pumpLength(c.grammar()); most <= 400 {
			all = append(all, c.grammar())
		}
	}
	return all
}

func TestPropsAreThoseOfTheLengthsOfWords(t *testing.T) {
	endless, without, useful := 0, 0, 0
	for _, g := range propsGrammars() {
		got, want := askProps(g), wantedProps(g)
		if !sameProps(got, want) {
			t.Fatalf("%v: got %+v; want %+v", g, got, want)
		}
		if !got.Finite {
			endless++
		}
		if !got.LeastOk {
			without++
		}
		if got.IsUseful {
			useful++
		}
	}
	if endless < 500 || without < 500 || useful < 500 {
		t.Error("too few grammars of a kind to tell:", endless, without, useful)
	}
}

// Promise 3: the words are the same.
func TestUsefulOfPreservesTheLanguage(t *testing.T) {
	words, fallen := 0, 0
	for _, g := range propsGrammars() {
		u, ok := impl.UsefulOf(g)
		if !ok || !impl.GoodGrammar(u) {
			t.Fatal("no useful grammar of", g)
		}
		for _, w := range wordsUpTo(g.Toks, 4) {
			in := derives(g, 0, w)
			if derives(u, 0, w) != in {
				t.Fatal(g, u, w, in)
			}
			if in && len(u.Rules) < len(g.Rules) {
				words++
			}
		}
		if len(u.Rules) < len(g.Rules) {
			fallen++
		}
	}
	if words < 1000 || fallen < 1000 {
		t.Error("too few words or rules to tell:", words, fallen)
	}
}

// Promise 3: each nonterminal left in a rule is reached, and derives a word, by
// the rules that are left.
func TestUsefulOfHasNoUselessSymbol(t *testing.T) {
	for _, g := range propsGrammars() {
		u, ok := impl.UsefulOf(g)
		if !ok || u.Nons != g.Nons || u.Toks != g.Toks {
			t.Fatal(g, u, ok)
		}
		_, most := pumpLength(u)
		found := lengthsOf(u, most)
		for _, r := range u.Rules {
			for _, x := range append(slices.Clone(r.Right), r.Left) {
				if x >= 0 && (found[x].Sign() == 0 || !isReached(u.Rules, x, u.Nons)) {
					t.Fatal("useless symbol", x, "in", u, "of", g)
				}
			}
		}
	}
}

func TestUsefulOfTheUsefulChangesNothing(t *testing.T) {
	for _, g := range propsGrammars() {
		u, _ := impl.UsefulOf(g)
		again, ok := impl.UsefulOf(u)
		wantGrammar(t, "again", again, ok, u)
		is, ok := impl.IsUseful(u)
		wantTold(t, "useful", is, ok, true)
		is, ok = impl.IsUseful(g)
		wantTold(t, "IsUseful", is, ok, sameParts(g, u))
	}
}
