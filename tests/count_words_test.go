package tests

import (
	"slices"
	"testing"

	"loop.example/g00758/impl"
)

func sumOf(list []int) int {
	sum := 0
	for _, x := range list {
		sum += x
	}
	return sum
}

// wantCounts holds what chapter 10 tells of a word against the tests' own
// forest, against chapters 4 and 9, and against itself.
func wantCounts(t *testing.T, g impl.Grammar, w []int, in bool, codes map[int]int) {
	t.Helper()
	trees, code, ok := impl.CountTrees(g, w)
	f, forestOk := impl.ForestOf(g, w)
	sizes, sizesOk := impl.CountSized(g, w, 20)
	least, leastOk := impl.LeastSize(g, w)
	if ok != forestOk || !sizesOk || !slices.Equal(sizes, wantedSizes(g, w, 20)) {
		t.Fatal(g, w, trees, code, ok, sizes, sizesOk)
	}
	if first := firstSize(sizes); first > 0 && (least != first || !leastOk) || first == 0 && leastOk && least <= 20 || !leastOk && least != 0 {
		t.Fatal("least", g, w, least, leastOk, sizes)
	}
	if !in && (leastOk || sumOf(sizes) > 0) {
		t.Fatal("not in", g, w, least, leastOk, sizes)
	}
	wantTrees(t, "counted", g, w, wantedTrees(g, w))
	codes[code]++
	if ok {
		wantCountOfForest(t, g, w, f, in, trees, code)
	}
}

// wantCountOfForest is promise 10.
func wantCountOfForest(t *testing.T, g impl.Grammar, w []int, f impl.Forest, in bool, trees, code int) {
	t.Helper()
	is, ok := impl.InLanguage(g, w)
	if isNone := trees == 0 && code == impl.CtSome; !ok || is != in || isNone == in {
		t.Fatal("none", g, w, trees, code, is, in)
	}
	round, ok := impl.HasRound(g, f)
	if !ok || round != (code == impl.CtEndless) {
		t.Fatal("no end", g, w, code, round)
	}
	if !round && largestSize(g, f) <= 20 {
		sizes, _ := impl.CountSized(g, w, 20)
		if sum := sumOf(sizes); code == impl.CtSome && sum != trees || code == impl.CtMost && sum < mostTrees {
			t.Fatal("sum", g, w, trees, code, sizes)
		}
	}
}

// largestSize is of the greatest tree, of nodes that nothing leads back to.
func largestSize(g impl.Grammar, f impl.Forest) int {
	arrows, largest := arrowsOf(g, f), make([]int, len(f.Nodes))
	for range f.Nodes {
		for _, arrow := range arrows {
			size := 1
			for _, child := range arrow[1:] {
				size += largest[child]
			}
			largest[arrow[0]] = max(largest[arrow[0]], size)
		}
	}
	return slices.Max(append(largest, 0))
}

func wantCodes(t *testing.T, codes map[int]int, some, none int) {
	t.Helper()
	if codes[impl.CtSome] < some || codes[impl.CtEndless] < none {
		t.Error("too few of a kind to tell:", codes)
	}
}

// Promise 10.
func TestEndlessTreesJustWhereTheForestHasARound(t *testing.T) {
	codes := map[int]int{}
	for n, g := range derivingGrammars() {
		found := enumerated(g, 4)
		for i, w := range wordsUpTo(g.Toks, 4) {
			if g.Toks == 1 || (i+n)%4 == 0 {
				wantCounts(t, g, w, found[0].has(wordLetters(w)), codes)
			}
		}
	}
	wantCodes(t, codes, 5000, 500)
}

func TestCountsOfOneTokenManyTimes(t *testing.T) {
	codes := map[int]int{}
	for n, g := range smallGrammars() {
		if n%2 != 0 {
			continue
		}
		found := enumerated(g, 7)
		for long := range 8 {
			w := make([]int, long)
			wantCounts(t, g, w, found[0].has(wordLetters(w)), codes)
		}
	}
	wantCodes(t, codes, 5000, 100)
}

func TestCountsOfLongWords(t *testing.T) {
	codes, p := map[int]int{}, picker{139}
	for _, g := range longGrammars() {
		found := enumerated(g, 10)
		ins := found[0].all(10)
		for range 10 {
			wantCounts(t, g, wordOf(ins[p.pick(len(ins))]), true, codes)
			w := p.word(2, p.pick(11))
			wantCounts(t, g, w, found[0].has(wordLetters(w)), codes)
		}
	}
	wantCodes(t, codes, 50, 20)
}

// derivations count for each word, by its letters, and each size up to one the
// lists of rules that rewrite the start to it: there is one for each tree.
func derivations(g impl.Grammar, most int) map[string][]int {
	counts := map[string][]int{}
	var further func(rules []int)
	further = func(rules []int) {
		form, ok := impl.RewritesTo(g, rules)
		if !ok {
			return
		}
		if letters := lettersOf(form); !slices.ContainsFunc(form, func(x int) bool { return x >= 0 }) {
			if counts[letters] == nil {
				counts[letters] = make([]int, most+1)
			}
			counts[letters][len(rules)]++
		}
		for number := range g.Rules {
			if len(rules) < most {
				further(append(slices.Clone(rules), number))
			}
		}
	}
	further(nil)
	return counts
}

func TestCountSizedIsHowManyDerivationsThereAre(t *testing.T) {
	for _, g := range append(someGrammars(150), pickedGrammars(50, 4, 6, 4)...) {
		counts := derivations(g, 5)
		for _, w := range wordsUpTo(g.Toks, 4) {
			want := counts[wordLetters(w)]
			if want == nil {
				want = make([]int, 6)
			}
			sizes, ok := impl.CountSized(g, w, 5)
			wantList(t, "derivations", sizes, ok, want...)
			if first := firstSize(want); first > 0 {
				wantLeastSize(t, "least", g, w, first)
			}
		}
	}
}

// heights count by a prime how many trees there are that are at most so high.
type heights map[[3]int]int

const prime = 998244353

func (h heights) beside(right, w []int, from, to int) int {
	if len(right) == 0 {
		return map[bool]int{true: 1}[from == to]
	}
	sum := 0
	for mid := from; mid <= to; mid++ {
		ways := h[[3]int{right[0], from, mid}]
		if right[0] < 0 && mid == from+1 && token(w[from]) == right[0] {
			ways = 1
		}
		if ways > 0 {
			sum = (sum + ways*h.beside(right[1:], w, mid, to)) % prime
		}
	}
	return sum
}

func (h heights) higher(g impl.Grammar, w []int) heights {
	out := heights{}
	for _, r := range g.Rules {
		for from := 0; from <= len(w); from++ {
			for to := from; to <= len(w); to++ {
				if ways := h.beside(r.Right, w, from, to); ways > 0 {
					place := [3]int{r.Left, from, to}
					out[place] = (out[place] + ways) % prime
				}
			}
		}
	}
	return out
}

// hasEnd tells it without a forest: a tree that is higher than there are
// nonterminals and parts one within the other has one twice on a way down, and
// then there are higher ones, too, the next of them by no more than a round.
func hasEnd(g impl.Grammar, w []int) bool {
	h, root := heights{}, [3]int{0, 0, len(w)}
	for range g.Nons * (len(w) + 1) {
		h = h.higher(g, w)
	}
	before := h[root]
	for range g.Nons {
		if h = h.higher(g, w); h[root] != before {
			return false
		}
	}
	return true
}

func TestTreesThatBecomeEverHigherHaveNoEnd(t *testing.T) {
	seen := tally{}
	for n, g := range append(smallGrammars(), someGrammars(300)...) {
		for i, w := range wordsUpTo(g.Toks, 3) {
			if g.Toks > 1 && (n+i)%3 != 0 {
				continue
			}
			_, code, ok := impl.CountTrees(g, w)
			if !ok || (code != impl.CtEndless) != hasEnd(g, w) {
				t.Fatal(g, w, code, ok)
			}
			seen[code == impl.CtEndless]++
		}
	}
	seen.wantBoth(t, 100)
}
