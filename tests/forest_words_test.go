package tests

import (
	"slices"
	"testing"

	"loop.example/g00758/impl"
)

// toldForest is what ForestOf tells of good arguments, held against the tests'
// own forest.
func toldForest(t *testing.T, g impl.Grammar, w []int) (impl.Forest, bool) {
	t.Helper()
	f, ok := impl.ForestOf(g, w)
	want := wholeForest(g, w)
	if ok != (len(want.Edges) <= 600) || ok && !sameForests(f, want) {
		t.Fatal(g, w, f, ok, want)
	}
	if !ok {
		wantNoForest(t, "too many", f, ok)
	}
	if impl.GoodForest(g, w, f) != ok || impl.GoodForest(g, w, want) != ok {
		t.Fatal("good", g, w, f, ok)
	}
	return f, ok
}

func wantNodeDerives(t *testing.T, g impl.Grammar, w []int, n impl.Node) {
	t.Helper()
	if n.From < 0 || n.To < n.From || n.To > len(w) {
		t.Fatal("no part", g, w, n)
	}
	if is, ok := impl.Derives(g, n.Non, w[n.From:n.To]); !is || !ok {
		t.Fatal("node", g, w, n, is, ok)
	}
}

// wantEdgeDerives asks of each symbol, and of all of them, whether they derive
// the tokens between their cuts.
func wantEdgeDerives(t *testing.T, g impl.Grammar, w []int, n impl.Node, e impl.Edge) {
	t.Helper()
	right := g.Rules[e.Rule].Right
	if g.Rules[e.Rule].Left != n.Non || len(e.Cuts) != len(right)+1 || !slices.IsSorted(e.Cuts) ||
		e.Cuts[0] != n.From || e.Cuts[len(right)] != n.To {
		t.Fatal("edge", g, w, n, e)
	}
	for i := range right {
		if is, ok := impl.SequenceDerives(g, right[i:i+1], w[e.Cuts[i]:e.Cuts[i+1]]); !is || !ok {
			t.Fatal("symbol", g, w, n, e, i)
		}
	}
	if is, ok := impl.SequenceDerives(g, right, w[n.From:n.To]); !is || !ok {
		t.Fatal("symbols", g, w, n, e)
	}
}

// wantNodes is promise 9 of one forest, beside when it is empty.
func wantNodes(t *testing.T, g impl.Grammar, w []int, f impl.Forest) {
	t.Helper()
	cameTo := make([]bool, len(f.Nodes))
	for number, n := range f.Nodes {
		wantNodeDerives(t, g, w, n)
		edges, ok := impl.EdgesOf(f, number)
		if len(edges) == 0 || !ok {
			t.Fatal("no edge", g, w, n)
		}
		cameTo[number] = cameTo[number] || n == impl.Node{To: len(w)}
		for _, edge := range edges {
			wantEdgeDerives(t, g, w, n, f.Edges[edge])
			children, ok := impl.ChildrenOf(g, f, edge)
			if !ok {
				t.Fatal("no children", g, w, f, edge)
			}
			for i, child := range leadsTo(g, f.Edges[edge]) {
				if f.Nodes[children[i]] != child {
					t.Fatal("another child", g, w, f, edge)
				}
				cameTo[children[i]] = true
			}
		}
	}
	if slices.Contains(cameTo, false) {
		t.Fatal("not come to", g, w, f)
	}
}

// arrowsOf has what the edges of a forest lead from and to.
func arrowsOf(g impl.Grammar, f impl.Forest) lists {
	var arrows lists
	for _, e := range f.Edges {
		arrow := []int{e.Node}
		for _, child := range leadsTo(g, e) {
			arrow = append(arrow, slices.Index(f.Nodes, child))
		}
		arrows = append(arrows, arrow)
	}
	return arrows
}

// wantPromise holds a forest against InLanguage, against chapter 4, and against
// the tests' own forest.
func wantPromise(t *testing.T, g impl.Grammar, w []int, in bool, seen, rounds tally) {
	t.Helper()
	f, ok := toldForest(t, g, w)
	if !ok {
		return
	}
	is, isOk := impl.InLanguage(g, w)
	if isEmpty := len(f.Nodes) == 0 && len(f.Edges) == 0; !isOk || is != in || isEmpty == is || len(f.Nodes) == 0 != isEmpty {
		t.Fatal("empty", g, w, f, is)
	}
	wantNodes(t, g, w, f)
	want := wayBack(len(f.Nodes), arrowsOf(g, f))
	round, roundOk := impl.HasRound(g, f)
	wantTold(t, "round", round, roundOk, want)
	seen[is]++
	rounds[want]++
}

// Promise 9.
func TestForestIsEmptyJustWhereTheWordIsNotOfTheLanguage(t *testing.T) {
	seen, rounds := tally{}, tally{}
	for _, g := range derivingGrammars() {
		found := enumerated(g, 4)
		for _, w := range wordsUpTo(g.Toks, 4) {
			wantPromise(t, g, w, found[0].has(wordLetters(w)), seen, rounds)
		}
	}
	seen.wantBoth(t, 2000)
	rounds.wantBoth(t, 1000)
}

func TestForestOfOneTokenManyTimes(t *testing.T) {
	seen, rounds := tally{}, tally{}
	for _, g := range smallGrammars() {
		found := enumerated(g, 8)
		for long := range 9 {
			w := make([]int, long)
			wantPromise(t, g, w, found[0].has(wordLetters(w)), seen, rounds)
		}
	}
	seen.wantBoth(t, 50)
	rounds.wantBoth(t, 50)
}

func TestForestOfLongWords(t *testing.T) {
	seen, rounds, p := tally{}, tally{}, picker{127}
	for _, g := range longGrammars() {
		found := enumerated(g, 10)
		ins := found[0].all(10)
		for range 25 {
			wantPromise(t, g, wordOf(ins[p.pick(len(ins))]), true, seen, rounds)
			w := p.word(2, p.pick(11))
			wantPromise(t, g, w, found[0].has(wordLetters(w)), seen, rounds)
		}
	}
	seen.wantBoth(t, 50)
	rounds.wantBoth(t, 50)
}
