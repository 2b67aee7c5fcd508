package tests

import (
	"testing"

	"loop.example/g00758/impl"
)

func TestCountConstants(t *testing.T) {
	if impl.MostTrees != 1000000000 || impl.CtSome != 1 || impl.CtEndless != 2 || impl.CtMost != 3 {
		t.Error(impl.MostTrees, impl.CtSome, impl.CtEndless, impl.CtMost)
	}
}

func TestCountTreesCases(t *testing.T) {
	for _, c := range countCases() {
		wantTrees(t, c.name(), c.grammar(), wordOf(c.word), c.trees)
	}
}

func TestCountSizedCases(t *testing.T) {
	for _, c := range countCases() {
		wantSizes(t, c.name(), c.grammar(), wordOf(c.word), sizesOf(c.sizes))
	}
}

func TestLeastSizeCases(t *testing.T) {
	for _, c := range countCases() {
		wantLeastSize(t, c.name(), c.grammar(), wordOf(c.word), c.least)
	}
}

// The tests' own reading of the document is held against what is written by
// hand, too.
func TestWantedTreesCases(t *testing.T) {
	for _, c := range countCases() {
		g, w := c.grammar(), wordOf(c.word)
		if trees := wantedTrees(g, w); trees != c.trees {
			t.Error(c.name(), "trees", trees)
		}
		wantList(t, c.name()+", sizes", wantedSizes(g, w, 20), true, sizesOf(c.sizes)...)
	}
}

// Of 600 edges the trees are counted; of 601 they are not, though there too the
// sizes are told.
func TestCountsOfMaxEdges(t *testing.T) {
	w := wordOf(mostEdgesWord)
	for text, want := range map[string]int{mostEdges: 114607, mostEdges + ";S=aab": untold, "1 2;S=aab;" + mostEdges[4:]: untold} {
		g := grammarOf(text)
		wantTrees(t, text, g, w, want)
		sizes := wantedSizes(g, w, 20)
		wantSizes(t, text, g, w, sizes)
		wantLeastSize(t, text, g, w, firstSize(sizes))
		if trees := wantedTrees(g, w); trees != want {
			t.Error("another number of trees", text, trees)
		}
	}
}

// Sixteen rules by which each nonterminal derives each word, in very many ways.
func TestCountsOfFarTooManyEdges(t *testing.T) {
	g := grammarOf("6 1;S=SSSS;S=SAES;S=SBDS;S=SCCS;A=ABCD;B=BCDE;C=CDEA;D=DEAB;E=EABC;S=A;A=B;B=C;C=D;D=E;E=a;E=")
	for long := range 11 {
		w, name, trees := make([]int, long), numberText(long)+" tokens", untold
		if long < 4 {
			trees = endless
		}
		wantTrees(t, name, g, w, trees)
		sizes, ok := impl.CountSized(g, w, 20)
		if long < 5 {
			wantList(t, name, sizes, ok, wantedSizes(g, w, 20)...)
		}
		least, ok := impl.LeastSize(g, w)
		if first := firstSize(sizes); !ok || first > 0 && least != first || first == 0 && least <= 20 {
			t.Error(name, least, ok, sizes)
		}
	}
}

func TestCountsOfMaxWordTokens(t *testing.T) {
	for text, size := range map[string]int{"1 1;S=aS;S=": 11, "1 1;S=aaS;S=": 6, "1 1;S=Sa;S=a": 10} {
		g := grammarOf(text)
		wantTrees(t, text, g, make([]int, 10), 1)
		wantLeastSize(t, text, g, make([]int, 10), size)
		wantSizes(t, text, g, make([]int, 10), sizesOf(numberText(size)+":1"))
		wantNoTrees(t, text, g, make([]int, 11))
		wantNoTrees(t, text, g, make([]int, 12))
	}
}

func TestCountSizedOfMost(t *testing.T) {
	for _, text := range []string{"1 1;S=S;S=a", "1 1;S=a", "1 1"} {
		for _, most := range append(oddInts(), -1, -2, 21, 22) {
			sizes, ok := impl.CountSized(grammarOf(text), []int{0}, most)
			if most == 17 {
				wantList(t, text, sizes, ok, wantedSizes(grammarOf(text), []int{0}, 17)...)
			} else {
				wantNoList(t, text+", "+numberText(most), sizes, ok)
			}
		}
	}
	g := grammarOf("1 1;S=S;S=a")
	sizes, ok := impl.CountSized(g, []int{0}, 0)
	wantList(t, "0", sizes, ok, 0)
	sizes, ok = impl.CountSized(g, []int{0}, 1)
	wantList(t, "1", sizes, ok, 0, 1)
	sizes, ok = impl.CountSized(g, []int{0, 0}, 1)
	wantList(t, "no tree", sizes, ok, 0, 0)
}

func TestCountsOfNoGoodArguments(t *testing.T) {
	for name, g := range badGrammars() {
		for _, w := range append(wordsUpTo(1, 2), badWords()...) {
			wantNoTrees(t, name, g, w)
		}
	}
	for _, text := range []string{"1 2;S=SS;S=a;S=b;S=", "1 2;S=a;S=b;S=", "1 2"} {
		for _, w := range badWords() {
			wantNoTrees(t, text, grammarOf(text), w)
		}
	}
}
