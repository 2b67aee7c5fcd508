package tests

import (
	"slices"
	"testing"

	"loop.example/g00758/impl"
)

func TestForestOfCases(t *testing.T) {
	for _, c := range forestCases() {
		f, ok := impl.ForestOf(c.grammar(), wordOf(c.word))
		wantForest(t, c.text+" "+c.word, f, ok, c.forest())
	}
}

// The tests' own reading of the document is held against what is written by
// hand, too.
func TestWholeForestCases(t *testing.T) {
	for _, c := range forestCases() {
		wantForest(t, c.text+" "+c.word, wholeForest(c.grammar(), wordOf(c.word)), true, c.forest())
	}
}

// fullForest has 175 edges: of each part one token long one, of each other one
// as many as there are places between.
func fullForest() impl.Forest {
	var f impl.Forest
	for from := range 10 {
		for to := from + 1; to <= 10; to++ {
			for between := from + 1; between < to; between++ {
				f.Edges = append(f.Edges, impl.Edge{Node: len(f.Nodes), Cuts: []int{from, between, to}})
			}
			if to == from+1 {
				f.Edges = append(f.Edges, impl.Edge{Node: len(f.Nodes), Rule: 1, Cuts: []int{from, to}})
			}
			f.Nodes = append(f.Nodes, impl.Node{From: from, To: to})
		}
	}
	return f
}

func TestForestOfMaxWordTokens(t *testing.T) {
	g := grammarOf("1 1;S=SS;S=a")
	f, ok := impl.ForestOf(g, make([]int, 10))
	wantForest(t, "ten tokens", f, ok, fullForest())
	f, ok = impl.ForestOf(g, make([]int, 11))
	wantNoForest(t, "eleven tokens", f, ok)
}

// mostEdges has just MaxEdges edges for its word, and one more with the rule S=aab.
const (
	mostEdges     = "1 2;S=a;S=SS;S=SSS;S=aaS;S=SSa;S=bS;S=ab"
	mostEdgesWord = "aabaaaaaaa"
)

func TestForestOfMaxEdges(t *testing.T) {
	g, w := grammarOf(mostEdges), wordOf(mostEdgesWord)
	want := wholeForest(g, w)
	if len(want.Edges) != 600 {
		t.Fatal("another number of edges", len(want.Edges))
	}
	f, ok := impl.ForestOf(g, w)
	wantForest(t, "600 edges", f, ok, want)
	if !impl.GoodForest(g, w, want) {
		t.Error("not good with 600 edges")
	}
	nodes, edges, ok := impl.PackedSize(f)
	if nodes != len(want.Nodes) || edges != 600 || !ok {
		t.Error("size", nodes, edges, ok)
	}
	for _, text := range []string{mostEdges + ";S=aab", "1 2;S=aab;" + mostEdges[4:]} {
		g, want := grammarOf(text), wholeForest(grammarOf(text), w)
		if len(want.Edges) != 601 {
			t.Fatal("another number of edges", len(want.Edges))
		}
		f, ok := impl.ForestOf(g, w)
		wantNoForest(t, "601 edges", f, ok)
		if impl.GoodForest(g, w, want) || impl.GoodForest(g, w, impl.Forest{}) {
			t.Error("good with 601 edges")
		}
	}
}

// Only the edges of nodes that are come to count for the limit.
func TestForestOfCountsNoOtherEdges(t *testing.T) {
	many := ";A=a;A=AAAA;A=AAA;A=AA;A=aA;A=Aa"
	g := grammarOf("2 1;S=aaaS;S=a" + many)
	f, ok := impl.ForestOf(g, make([]int, 10))
	wantForest(t, "others", f, ok, forestOf("S0x S3x S6x S9x", "0.0.0123x 1.0.3456x 2.0.6789x 3.1.9x"))
	g = grammarOf("2 1;S=A;S=aaaS;S=a" + many)
	f, ok = impl.ForestOf(g, make([]int, 10))
	wantNoForest(t, "all", f, ok)
	f, ok = impl.ForestOf(g, make([]int, 11))
	wantNoForest(t, "no word", f, ok)
	g = grammarOf("2 1;A=S" + many)
	f, ok = impl.ForestOf(g, make([]int, 10))
	wantForest(t, "no forest", f, ok, impl.Forest{})
}

// Sixteen rules of the longest Rights, of which there are many edges.
func TestForestOfFarTooManyEdges(t *testing.T) {
	g := grammar(6, 1, rule(0), rule(0, token(0)))
	for count := range 14 {
		g.Rules = append(g.Rules, rule(0, 0, count%6, count/6, 0))
		if non := count % 6; non > 0 && len(g.Rules) < 12 {
			g.Rules = append(g.Rules, rule(non, non-1))
		}
	}
	g.Rules = g.Rules[:16]
	if !impl.GoodGrammar(g) {
		t.Fatal("not good", g)
	}
	for long := 5; long <= 10; long++ {
		f, ok := impl.ForestOf(g, make([]int, long))
		wantNoForest(t, "far too many", f, ok)
		if impl.GoodForest(g, make([]int, long), f) {
			t.Error("good", long)
		}
	}
}

func TestForestOfIsInOrder(t *testing.T) {
	g := grammarOf("3 2;S=AB;S=BA;S=SS;A=a;A=b;B=b;B=a;B=AB;A=")
	for _, w := range wordsUpTo(2, 5) {
		f, ok := impl.ForestOf(g, w)
		if !ok {
			t.Fatal("none", w)
		}
		for at := range len(f.Nodes) - 1 {
			if slices.Compare(nodeKey(f.Nodes[at]), nodeKey(f.Nodes[at+1])) >= 0 {
				t.Error("nodes", w, f.Nodes[at], f.Nodes[at+1])
			}
		}
		for at := range len(f.Edges) - 1 {
			if slices.Compare(edgeKey(f.Edges[at]), edgeKey(f.Edges[at+1])) >= 0 {
				t.Error("edges", w, f.Edges[at], f.Edges[at+1])
			}
		}
	}
}

func TestForestOfNoGoodArguments(t *testing.T) {
	for name, g := range badGrammars() {
		for _, w := range append(wordsUpTo(1, 2), badWords()...) {
			f, ok := impl.ForestOf(g, w)
			wantNoForest(t, name, f, ok)
			if impl.GoodForest(g, w, f) || impl.GoodForest(g, w, forestOf("S01", "0.0.01")) {
				t.Error("good", name, w)
			}
		}
	}
	g := grammarOf("1 2;S=SS;S=a;S=b;S=")
	for _, w := range badWords() {
		f, ok := impl.ForestOf(g, w)
		wantNoForest(t, "no word", f, ok)
		if impl.GoodForest(g, w, f) {
			t.Error("good", w)
		}
	}
}

func TestGoodForestCases(t *testing.T) {
	for _, c := range forestCases() {
		g, w, f := c.grammar(), wordOf(c.word), c.forest()
		if !impl.GoodForest(g, w, f) {
			t.Error("not good", c)
		}
		for name, changed := range changedForests(f) {
			if impl.GoodForest(g, w, changed) != sameForests(f, changed) {
				t.Error(c, name, changed)
			}
		}
		for _, other := range forestCases() {
			if impl.GoodForest(g, w, other.forest()) != sameForests(f, other.forest()) {
				t.Error(c, "of another", other)
			}
		}
	}
}

func TestGoodForestOfNeitherNodesNorEdges(t *testing.T) {
	for _, f := range []impl.Forest{{}, {Nodes: []impl.Node{}, Edges: []impl.Edge{}}, {Nodes: []impl.Node{}}} {
		for _, c := range forestCases() {
			if impl.GoodForest(c.grammar(), wordOf(c.word), f) != (c.nodes == "") {
				t.Error(c, f)
			}
		}
	}
	g := grammarOf("1 1;S=a")
	for _, f := range []impl.Forest{{Nodes: []impl.Node{{}}}, {Edges: []impl.Edge{{}}}, forestOf("S02", "0.0.02")} {
		if impl.GoodForest(g, []int{0, 0}, f) {
			t.Error("good", f)
		}
	}
}

func TestGoodForestOfNoOtherWordNorGrammar(t *testing.T) {
	f := forestOf("S01 S02 S12", "0.1.01 1.0.012 2.1.12")
	text := "1 2;S=SS;S=a"
	for _, w := range wordsUpTo(2, 4) {
		if impl.GoodForest(grammarOf(text), w, f) != (wordLetters(w) == "aa") {
			t.Error(w)
		}
	}
	for _, other := range []string{"1 2;S=a;S=SS", "1 2;S=SS;S=a;S=aa", "1 2;S=SS;S=a;S=", "1 2;S=SS;S=b", "1 2;S=SS;S=a;S=S", "1 2"} {
		if impl.GoodForest(grammarOf(other), []int{0, 0}, f) {
			t.Error(other)
		}
	}
	for _, other := range []string{"6 4;S=SS;S=a", "1 1;S=SS;S=a;S=aaa", "2 2;S=SS;S=a;A=SS;A=AA;A=b"} {
		if !impl.GoodForest(grammarOf(other), []int{0, 0}, f) {
			t.Error("not good", other)
		}
	}
}
