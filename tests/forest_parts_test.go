package tests

import (
	"math"
	"slices"
	"testing"

	"loop.example/g00758/impl"
)

// noPlaces are numbers of no place in a list with so many.
func noPlaces(count int) []int {
	out := []int{-1, -2, count, count + 1}
	for _, x := range oddInts() {
		if x < 0 || x >= count {
			out = append(out, x)
		}
	}
	return out
}

// manyForest has so many nodes, all unlike, and so many edges that lead from
// the last of them, by rule 0 of pairs, to the one of number 1.
func manyForest(nodes, edges int) impl.Forest {
	var f impl.Forest
	for at := range nodes {
		f.Nodes = append(f.Nodes, impl.Node{From: at, To: at + 1})
	}
	for range edges {
		f.Edges = append(f.Edges, impl.Edge{Node: nodes - 1, Cuts: []int{0, 1, 2, 3}})
	}
	return f
}

const pairsText = "1 2;S=aSb;S="

// tooMany has forests with more nodes, more edges, and more of both than may be.
func tooMany() []impl.Forest {
	return []impl.Forest{manyForest(601, 3), manyForest(3, 601), manyForest(601, 601), manyForest(5000, 600), manyForest(600, 5000)}
}

func TestEdgesOf(t *testing.T) {
	f := forestOf("S00 S01 A01 B11", "1.0.01 1.1.0 3.0.1 0.2. 1.0.01 3.3.123 9.0.0")
	f.Edges = append(f.Edges, impl.Edge{Node: -1}, impl.Edge{Node: 4}, impl.Edge{Node: math.MinInt}, impl.Edge{Node: 3})
	for node, want := range (lists{{3}, {0, 1, 4}, {}, {2, 5, 10}}) {
		numbers, ok := impl.EdgesOf(f, node)
		wantList(t, "edges of "+numberText(node), numbers, ok, want...)
	}
	for _, node := range append(noPlaces(4), 9) {
		numbers, ok := impl.EdgesOf(f, node)
		wantNoList(t, "edges of "+numberText(node), numbers, ok)
	}
	numbers, ok := impl.EdgesOf(forestOf("S00 S01", ""), 1)
	wantList(t, "no edges", numbers, ok)
}

func TestEdgesOfNoNode(t *testing.T) {
	for _, f := range []impl.Forest{{}, {Nodes: []impl.Node{}}, {Edges: []impl.Edge{{}}}, forestOf("", "0.0.01 1.0.01")} {
		for _, node := range append(noPlaces(0), 0) {
			numbers, ok := impl.EdgesOf(f, node)
			wantNoList(t, numberText(node), numbers, ok)
		}
	}
}

func TestEdgesOfMaxEdges(t *testing.T) {
	f := manyForest(600, 600)
	numbers, ok := impl.EdgesOf(f, 599)
	wantList(t, "all", numbers, ok, upTo(600)...)
	numbers, ok = impl.EdgesOf(f, 0)
	wantList(t, "none", numbers, ok)
	numbers, ok = impl.EdgesOf(f, 600)
	wantNoList(t, "no node", numbers, ok)
	for _, f := range tooMany() {
		for _, node := range []int{0, 1, len(f.Nodes) - 1, 599, 600} {
			numbers, ok = impl.EdgesOf(f, node)
			wantNoList(t, "too many", numbers, ok)
		}
	}
}

func TestEdgesOfCases(t *testing.T) {
	for _, c := range forestCases() {
		f := c.forest()
		all := []int{}
		for node := range f.Nodes {
			numbers, ok := impl.EdgesOf(f, node)
			if !ok || len(numbers) == 0 {
				t.Error("no edges", c, node, numbers, ok)
			}
			all = append(all, numbers...)
		}
		if !slices.Equal(all, upTo(len(f.Edges))) {
			t.Error(c, all)
		}
	}
}

// childrenCase asks for the children of the one edge there is.
type childrenCase struct {
	name, text, nodes, edge string
	children                []int
}

func childrenCases() []childrenCase {
	const mixed = "3 2;S=AB;S=aAbB;S=ab;S=;A=SSAA;B=A;A=Ab;A=aA"
	return []childrenCase{
		{"two nonterminals", mixed, "A01 B12", "0.0.012", []int{0, 1}},
		{"two nonterminals, nodes in another order", mixed, "B12 S02 A01", "0.0.012", []int{2, 0}},
		{"tokens between", mixed, "S04 A12 B34", "0.1.01234", []int{1, 2}},
		{"tokens between, cuts that no word has", mixed, "S04 A94 B07", "0.1.19407", []int{1, 2}},
		{"tokens alone", mixed, "S02", "0.2.012", nil},
		{"tokens alone, no node", mixed, "", "0.2.012", nil},
		{"empty Right", mixed, "S00", "0.3.0", nil},
		{"empty Right, no node", mixed, "", "7.3.5", nil},
		{"four nonterminals", mixed, "S01 S12 A23 A34", "0.4.01234", []int{0, 1, 2, 3}},
		{"four nonterminals, some the same", mixed, "A11 S11", "0.4.11111", []int{1, 1, 0, 0}},
		{"one nonterminal", mixed, "B01 A01", "0.5.01", []int{1}},
		{"a token behind", mixed, "A02 A01", "0.6.012", []int{1}},
		{"a token ahead", mixed, "A02 A12", "0.7.012", []int{1}},
		{"one node twice, the other not there", mixed, "A01 B01 A01 B01", "0.0.011", nil},
		{"the first of two nodes", mixed, "S01 A01 A01 B12 B12", "0.0.012", []int{1, 3}},
		{"places that fall", mixed, "A31 B12", "0.0.312", []int{0, 1}},
		{"no node of the edge", mixed, "A01 B12", "99.0.012", []int{0, 1}},
		{"a node of another Left", mixed, "A01 B12", "1.0.012", []int{0, 1}},
		{"the other places", mixed, "A01 B02 B11 S12 A12", "0.0.012", nil},
		{"the other nonterminal", mixed, "B01 A12", "0.0.012", nil},
		{"the first node not there", mixed, "B12", "0.0.012", nil},
		{"the last node not there", mixed, "A01", "0.0.012", nil},
		{"one in the middle not there", mixed, "S01 A23 A34", "0.4.01234", nil},
		{"no nodes", mixed, "", "0.5.01", nil},
		{"one cut fewer", mixed, "A01 B12", "0.0.01", nil},
		{"one cut more", mixed, "A01 B12", "0.0.0122", nil},
		{"no cuts", mixed, "A01 B12", "0.0.", nil},
		{"no cuts of an empty Right", mixed, "S00", "0.3.", nil},
		{"two cuts of an empty Right", mixed, "S00", "0.3.00", nil},
		{"cuts of tokens, one fewer", mixed, "S02", "0.2.02", nil},
		{"cuts of tokens, one more", mixed, "S02", "0.2.0112", nil},
		{"no such rule", mixed, "A01 B12", "0.8.012", nil},
		{"no such rule, empty", "1 1", "S00", "0.0.0", nil},
	}
}

// isTold has the cases without children that are there all the same.
func (c childrenCase) isTold() bool {
	return c.children != nil || slices.Contains([]string{"tokens alone", "tokens alone, no node", "empty Right", "empty Right, no node"}, c.name)
}

func TestChildrenOf(t *testing.T) {
	for _, c := range childrenCases() {
		f := forestOf(c.nodes, c.edge)
		children, ok := impl.ChildrenOf(grammarOf(c.text), f, 0)
		if c.isTold() {
			wantList(t, c.name, children, ok, c.children...)
		} else {
			wantNoList(t, c.name, children, ok)
		}
		for _, edge := range noPlaces(1) {
			children, ok = impl.ChildrenOf(grammarOf(c.text), f, edge)
			wantNoList(t, c.name, children, ok)
		}
	}
}

// The other edges do not count, whatever they are.
func TestChildrenOfOneEdgeAmongOthers(t *testing.T) {
	g := grammarOf("3 2;S=AB;S=aAbB;S=ab;S=;A=SSAA;B=A;A=Ab;A=aA")
	var f impl.Forest
	f.Nodes = forestOf("A01 B12 B01", "").Nodes
	for at, cuts := range (lists{{0, 1, 2}, {0, 1}, {1, 2, 3}, {0, 1, 2, 3, 4}, nil, {0, 1, 1}, {5}}) {
		f.Edges = append(f.Edges, impl.Edge{Node: at, Rule: at % 4, Cuts: cuts})
	}
	f.Edges = append(f.Edges, impl.Edge{Rule: -1, Cuts: []int{0, 1}}, impl.Edge{Rule: 5, Cuts: []int{0, 1}})
	for edge := range f.Edges {
		children, ok := impl.ChildrenOf(g, f, edge)
		switch edge {
		case 0:
			wantList(t, "the first", children, ok, 0, 1)
		case 2:
			wantList(t, "tokens", children, ok)
		case 8:
			wantList(t, "the last", children, ok, 0)
		default:
			wantNoList(t, numberText(edge), children, ok)
		}
	}
}

func TestChildrenOfNumbersThatAreOdd(t *testing.T) {
	g := grammarOf("2 1;S=AaS;A=A")
	for _, x := range append(oddInts(), -1, 11) {
		f := impl.Forest{Nodes: []impl.Node{{Non: 1, From: x, To: 3}, {Non: 0, From: 3, To: x}, {Non: 1, From: x, To: x}}}
		f.Edges = []impl.Edge{{Node: x, Rule: 0, Cuts: []int{x, 3, 3, x}}, {Rule: 1, Cuts: []int{x, x}}, {Rule: x, Cuts: []int{x, x}},
			{Rule: 1, Cuts: []int{x, x ^ 1}}, {Rule: 1, Cuts: []int{3, x}}}
		children, ok := impl.ChildrenOf(g, f, 0)
		wantList(t, numberText(x), children, ok, 0, 1)
		children, ok = impl.ChildrenOf(g, f, 1)
		wantList(t, numberText(x), children, ok, 2)
		for edge := 2; edge < 5; edge++ {
			children, ok = impl.ChildrenOf(g, f, edge)
			wantNoList(t, numberText(x), children, ok)
		}
		children, ok = impl.ChildrenOf(g, f, x)
		wantNoList(t, numberText(x), children, ok)
	}
}

func TestChildrenOfLimits(t *testing.T) {
	g := grammarOf(pairsText)
	for _, f := range []impl.Forest{manyForest(600, 600), manyForest(600, 1), manyForest(2, 600)} {
		for _, edge := range []int{0, len(f.Edges) / 2, len(f.Edges) - 1} {
			children, ok := impl.ChildrenOf(g, f, edge)
			wantList(t, "most", children, ok, 1)
		}
		children, ok := impl.ChildrenOf(g, f, len(f.Edges))
		wantNoList(t, "no edge", children, ok)
	}
	f := manyForest(600, 1)
	f.Edges[0].Cuts = []int{0, 599, 600, 600}
	children, ok := impl.ChildrenOf(g, f, 0)
	wantList(t, "the last node", children, ok, 599)
	for _, f := range tooMany() {
		for _, edge := range []int{0, len(f.Edges) - 1, 600} {
			children, ok = impl.ChildrenOf(g, f, edge)
			wantNoList(t, "too many", children, ok)
		}
	}
}

func TestChildrenOfNoGoodGrammar(t *testing.T) {
	f := forestOf("S01 S02 S12", "0.0.01 1.0.012 2.0.0 1.0.0123 0.1.01 0.1.0")
	for name, g := range badGrammars() {
		for edge := range f.Edges {
			children, ok := impl.ChildrenOf(g, f, edge)
			wantNoList(t, name, children, ok)
		}
	}
}

func TestSameForest(t *testing.T) {
	for _, c := range forestCases() {
		f := c.forest()
		if !impl.SameForest(f, f) || !impl.SameForest(f, copyOfForest(f)) {
			t.Error("not the same", c)
		}
		for name, changed := range changedForests(f) {
			want := sameForests(f, changed)
			if impl.SameForest(f, changed) != want || impl.SameForest(changed, f) != want {
				t.Error(c, name)
			}
		}
		for _, other := range forestCases() {
			if impl.SameForest(f, other.forest()) != sameForests(f, other.forest()) {
				t.Error(c, other)
			}
		}
	}
}

func TestSameForestOfEmptyAndNilLists(t *testing.T) {
	for _, pair := range [][2]impl.Forest{
		{{}, {}},
		{{}, {Nodes: []impl.Node{}, Edges: []impl.Edge{}}},
		{{Nodes: []impl.Node{}}, {Edges: []impl.Edge{}}},
		{{Edges: []impl.Edge{{Cuts: nil}}}, {Edges: []impl.Edge{{Cuts: []int{}}}}},
		{{Nodes: []impl.Node{{}}, Edges: nil}, {Nodes: []impl.Node{{}}, Edges: []impl.Edge{}}},
	} {
		if !impl.SameForest(pair[0], pair[1]) || !impl.SameForest(pair[1], pair[0]) {
			t.Error("not the same", pair)
		}
	}
	for _, pair := range [][2]impl.Forest{
		{{}, {Nodes: []impl.Node{{}}}},
		{{}, {Edges: []impl.Edge{{}}}},
		{{Nodes: []impl.Node{{}}}, {Edges: []impl.Edge{{}}}},
		{{Edges: []impl.Edge{{Cuts: nil}}}, {Edges: []impl.Edge{{Cuts: []int{0}}}}},
	} {
		if impl.SameForest(pair[0], pair[1]) || impl.SameForest(pair[1], pair[0]) {
			t.Error("the same", pair)
		}
	}
}

// Whether two forests are the same is asked of any: no word needs to have them.
func TestSameForestOfAnyForests(t *testing.T) {
	all := append(tooMany(), manyForest(600, 600), manyForest(601, 600))
	for _, x := range oddInts() {
		all = append(all, impl.Forest{Nodes: []impl.Node{{Non: x, From: x, To: -x}}, Edges: []impl.Edge{{Node: x, Rule: -x, Cuts: []int{x}}}})
	}
	for i, f := range all {
		for k, other := range all {
			if impl.SameForest(f, copyOfForest(other)) != (i == k) {
				t.Error(i, k)
			}
		}
	}
	f, other := manyForest(601, 601), manyForest(601, 601)
	other.Nodes[600].To++
	if impl.SameForest(f, other) {
		t.Error("the last node")
	}
	other = copyOfForest(f)
	other.Edges[600].Cuts[3]++
	if impl.SameForest(f, other) {
		t.Error("the last cut")
	}
}

func TestPackedSize(t *testing.T) {
	for _, nodes := range []int{0, 1, 2, 17, 599, 600, 601, 5000} {
		for _, edges := range []int{0, 1, 2, 17, 599, 600, 601, 5000} {
			n, m, ok := impl.PackedSize(manyForest(nodes, edges))
			if max(nodes, edges) <= 600 && (n != nodes || m != edges || !ok) {
				t.Error("size", nodes, edges, n, m, ok)
			}
			if max(nodes, edges) > 600 && (n != 0 || m != 0 || ok) {
				t.Error("too many", nodes, edges, n, m, ok)
			}
		}
	}
	for _, c := range forestCases() {
		f := c.forest()
		if n, m, ok := impl.PackedSize(f); n != len(f.Nodes) || m != len(f.Edges) || !ok {
			t.Error(c, n, m, ok)
		}
	}
}
