package tests

import (
	"slices"
	"strings"
	"testing"

	"loop.example/g00758/impl"
)

// placeIn reads a place in a word by its letter; x is ten.
func placeIn(letter byte) int { return strings.IndexByte("0123456789x", letter) }

func placesIn(letters string) []int {
	list := []int{}
	for _, c := range []byte(letters) {
		list = append(list, placeIn(c))
	}
	return list
}

// forestOf reads nodes as S02, a nonterminal, from and to, and edges as
// 3.0.0112, a node, a rule and the cuts.
func forestOf(nodes, edges string) impl.Forest {
	var f impl.Forest
	for _, field := range strings.Fields(nodes) {
		f.Nodes = append(f.Nodes, impl.Node{Non: nonsOf(field[:1])[0], From: placeIn(field[1]), To: placeIn(field[2])})
	}
	for _, field := range strings.Fields(edges) {
		parts := strings.Split(field, ".")
		f.Edges = append(f.Edges, impl.Edge{Node: numberOf(parts[0]), Rule: numberOf(parts[1]), Cuts: placesIn(parts[2])})
	}
	return f
}

func numberOf(digits string) int {
	number := 0
	for _, c := range []byte(digits) {
		number = 10*number + int(c-'0')
	}
	return number
}

func copyOfForest(f impl.Forest) impl.Forest {
	out := impl.Forest{Nodes: slices.Clone(f.Nodes)}
	for _, e := range f.Edges {
		out.Edges = append(out.Edges, impl.Edge{Node: e.Node, Rule: e.Rule, Cuts: slices.Clone(e.Cuts)})
	}
	return out
}

// sameForests compares field by field with the tests' own eyes.
func sameForests(a, b impl.Forest) bool {
	sameNode := func(x, y impl.Node) bool { return x.Non == y.Non && x.From == y.From && x.To == y.To }
	sameEdge := func(x, y impl.Edge) bool {
		return x.Node == y.Node && x.Rule == y.Rule && slices.Equal(x.Cuts, y.Cuts)
	}
	return slices.EqualFunc(a.Nodes, b.Nodes, sameNode) && slices.EqualFunc(a.Edges, b.Edges, sameEdge)
}

func wantForest(t *testing.T, name string, got impl.Forest, ok bool, want impl.Forest) {
	t.Helper()
	if !ok || !sameForests(got, want) {
		t.Errorf("%s: got %v, %v; want %v, true", name, got, ok, want)
	}
}

func wantNoForest(t *testing.T, name string, got impl.Forest, ok bool) {
	t.Helper()
	if ok || len(got.Nodes) != 0 || len(got.Edges) != 0 {
		t.Errorf("%s: got %v, %v; want the zero answer", name, got, ok)
	}
}

// cutLists are all lists of so many numbers that do not fall, from the one to
// the other, put together from the back.
func cutLists(count, from, to int) lists {
	out := lists{{to}}
	for range count - 1 {
		var longer lists
		for _, list := range out {
			for ahead := from; ahead <= list[0]; ahead++ {
				longer = append(longer, append([]int{ahead}, list...))
			}
		}
		out = longer
	}
	return slices.DeleteFunc(out, func(list []int) bool { return list[0] != from })
}

// fits tells whether each symbol derives what is between its cuts.
func (s spans) fits(right, cuts, w []int) bool {
	for i, x := range right {
		from, to := cuts[i], cuts[i+1]
		if x >= 0 && !s[[3]int{x, from, to}] || x < 0 && (to != from+1 || token(w[from]) != x) {
			return false
		}
	}
	return true
}

func (s spans) edgesOf(g impl.Grammar, w []int, node impl.Node) []impl.Edge {
	var edges []impl.Edge
	for number, r := range g.Rules {
		if r.Left != node.Non {
			continue
		}
		for _, cuts := range cutLists(len(r.Right)+1, node.From, node.To) {
			if s.fits(r.Right, cuts, w) {
				edges = append(edges, impl.Edge{Rule: number, Cuts: cuts})
			}
		}
	}
	return edges
}

func leadsTo(g impl.Grammar, e impl.Edge) []impl.Node {
	var nodes []impl.Node
	for i, x := range g.Rules[e.Rule].Right {
		if x >= 0 {
			nodes = append(nodes, impl.Node{Non: x, From: e.Cuts[i], To: e.Cuts[i+1]})
		}
	}
	return nodes
}

func nodeKey(n impl.Node) []int { return []int{n.From, n.To, n.Non} }

func edgeKey(e impl.Edge) []int { return append([]int{e.Node, e.Rule}, e.Cuts...) }

// wholeForest is for good arguments, by the words of the document and the
// tests' own table of what derives what; it has no limit.
func wholeForest(g impl.Grammar, w []int) impl.Forest {
	known := spansOf(g, w)
	if !known[[3]int{0, 0, len(w)}] {
		return impl.Forest{}
	}
	f := impl.Forest{Nodes: []impl.Node{{To: len(w)}}}
	edges := map[impl.Node][]impl.Edge{}
	for at := 0; at < len(f.Nodes); at++ {
		edges[f.Nodes[at]] = known.edgesOf(g, w, f.Nodes[at])
		for _, e := range edges[f.Nodes[at]] {
			for _, child := range leadsTo(g, e) {
				if !slices.Contains(f.Nodes, child) {
					f.Nodes = append(f.Nodes, child)
				}
			}
		}
	}
	slices.SortFunc(f.Nodes, func(a, b impl.Node) int { return slices.Compare(nodeKey(a), nodeKey(b)) })
	for number, node := range f.Nodes {
		for _, e := range edges[node] {
			f.Edges = append(f.Edges, impl.Edge{Node: number, Rule: e.Rule, Cuts: e.Cuts})
		}
	}
	slices.SortFunc(f.Edges, func(a, b impl.Edge) int { return slices.Compare(edgeKey(a), edgeKey(b)) })
	return f
}

// forestCase is a grammar, a word, and their forest, written by hand. A word
// without a forest has no nodes.
type forestCase struct {
	text, word, nodes, edges string
	round                    bool
}

func (c forestCase) grammar() impl.Grammar { return grammarOf(c.text) }

func (c forestCase) forest() impl.Forest { return forestOf(c.nodes, c.edges) }

func forestCases() []forestCase {
	cases := append(plainForests(), noForests()...)
	cases = append(cases, emptyRightForests()...)
	cases = append(cases, roundForests()...)
	return append(cases, orderForests()...)
}

func plainForests() []forestCase {
	const pairs = "1 2;S=aSb;S="
	const twice = "1 1;S=SS;S=a"
	return []forestCase{
		{text: pairs, word: "ab", nodes: "S02 S11", edges: "0.0.0112 1.1.1"},
		{text: pairs, word: "aabb", nodes: "S04 S13 S22", edges: "0.0.0134 1.0.1223 2.1.2"},
		{text: pairs, word: "aaaaabbbbb", nodes: "S0x S19 S28 S37 S46 S55",
			edges: "0.0.019x 1.0.1289 2.0.2378 3.0.3467 4.0.4556 5.1.5"},
		{text: twice, word: "a", nodes: "S01", edges: "0.1.01"},
		{text: twice, word: "aa", nodes: "S01 S02 S12", edges: "0.1.01 1.0.012 2.1.12"},
		{text: twice, word: "aaa", nodes: "S01 S02 S03 S12 S13 S23",
			edges: "0.1.01 1.0.012 2.0.013 2.0.023 3.1.12 4.0.123 5.1.23"},
		{text: "1 2;S=abab", word: "abab", nodes: "S04", edges: "0.0.01234"},
		{text: "1 4;S=d", word: "d", nodes: "S01", edges: "0.0.01"},
		{text: "1 1;S=aS;S=a", word: "aaa", nodes: "S03 S13 S23", edges: "0.0.013 1.0.123 2.1.23"},
		{text: "1 1;S=Sa;S=a", word: "aaa", nodes: "S01 S02 S03", edges: "0.1.01 1.0.012 2.0.023"},
		{text: "6 1;S=E;E=D;D=C;C=B;B=A;A=a", word: "a", nodes: "S01 A01 B01 C01 D01 E01",
			edges: "0.0.01 1.5.01 2.4.01 3.3.01 4.2.01 5.1.01"},
		{text: "3 3;S=SaA;S=A;A=AbB;A=B;B=c", word: "cacbc", nodes: "S01 A01 B01 S05 A23 B23 A25 B45",
			edges: "0.1.01 1.3.01 2.4.01 3.0.0125 4.3.23 5.4.23 6.2.2345 7.4.45"},
		{text: "3 2;S=AB;A=a;A=aa;B=b;B=ab", word: "aab", nodes: "A01 A02 S03 B13 B23",
			edges: "0.1.01 1.2.012 2.0.013 2.0.023 3.4.123 4.3.23"},
		{text: "3 1;S=A;S=B;A=a;B=a", word: "a", nodes: "S01 A01 B01", edges: "0.0.01 0.1.01 1.2.01 2.3.01"},
		{text: "2 1;S=aa;A=aa;S=A", word: "aa", nodes: "S02 A02", edges: "0.0.012 0.2.02 1.1.012"},
		{text: "3 2;S=AB;S=BA;A=a;A=b;B=b;B=a", word: "ab", nodes: "A01 B01 S02 A12 B12",
			edges: "0.2.01 1.5.01 2.0.012 2.1.012 3.3.12 4.4.12"},
	}
}

// noForests are of words that are not of the language, whatever else derives them.
func noForests() []forestCase {
	return []forestCase{
		{text: "1 2;S=aSb;S=", word: "a"},
		{text: "1 2;S=aSb;S=", word: "ba"},
		{text: "1 2;S=aSb;S=", word: "abab"},
		{text: "1 1;S=SS;S=a", word: ""},
		{text: "1 1;S=a", word: "aa"},
		{text: "1 1;S=", word: "a"},
		{text: "1 1", word: ""},
		{text: "1 1", word: "a"},
		{text: "6 4", word: "abcd"},
		{text: "2 1;A=a", word: "a"},
		{text: "2 1;S=A;S=S;A=S", word: "a"},
		{text: "1 1;S=S", word: ""},
		{text: "3 2;S=AB;A=a", word: "ab"},
		{text: "1 1;S=aaS;S=a", word: "aaaaaaaaaa"},
	}
}

func emptyRightForests() []forestCase {
	return []forestCase{
		{text: "1 2;S=aSb;S=", word: "", nodes: "S00", edges: "0.1.0"},
		{text: "1 1;S=", word: "", nodes: "S00", edges: "0.0.0"},
		{text: "2 2;S=aAb;A=;A=b", word: "ab", nodes: "S02 A11", edges: "0.0.0112 1.1.1"},
		{text: "2 2;S=aAb;A=;A=b", word: "abb", nodes: "S03 A12", edges: "0.0.0123 1.2.12"},
		{text: "2 3;S=aAAb;A=;A=c", word: "acb", nodes: "S03 A11 A12 A22", edges: "0.0.01123 0.0.01223 1.1.1 2.2.12 3.1.2"},
		{text: "2 2;S=aAAb;A=", word: "ab", nodes: "S02 A11", edges: "0.0.01112 1.1.1"},
		{text: "2 1;S=Aa;A=", word: "a", nodes: "A00 S01", edges: "0.1.0 1.0.001"},
		{text: "2 1;S=aA;A=", word: "a", nodes: "S01 A11", edges: "0.0.011 1.1.1"},
		{text: "4 1;S=ABC;A=;B=A;C=BB", word: "", nodes: "S00 A00 B00 C00", edges: "0.0.0000 1.1.0 2.2.00 3.3.000"},
		{text: "2 1;S=AAA;A=;A=a", word: "a", nodes: "A00 S01 A01 A11", edges: "0.1.0 1.0.0001 1.0.0011 1.0.0111 2.2.01 3.1.1"},
		{text: "2 1;S=AAA;A=;A=a", word: "aa", nodes: "A00 A01 S02 A11 A12 A22",
			edges: "0.1.0 1.2.01 2.0.0012 2.0.0112 2.0.0122 3.1.1 4.2.12 5.1.2"},
		{text: "2 1;S=AAAA;A=", word: "", nodes: "S00 A00", edges: "0.0.00000 1.1.0"},
		{text: "1 1;S=aS;S=", word: "aaaaaaaaaa", nodes: "S0x S1x S2x S3x S4x S5x S6x S7x S8x S9x Sxx",
			edges: "0.0.01x 1.0.12x 2.0.23x 3.0.34x 4.0.45x 5.0.56x 6.0.67x 7.0.78x 8.0.89x 9.0.9xx 10.1.x"},
	}
}

// roundForests have nonterminals that stand for themselves, and some by which
// such ones are only passed by.
func roundForests() []forestCase {
	return []forestCase{
		{text: "1 1;S=S;S=a", word: "a", nodes: "S01", edges: "0.0.01 0.1.01", round: true},
		{text: "1 1;S=S;S=", word: "", nodes: "S00", edges: "0.0.00 0.1.0", round: true},
		{text: "2 1;S=A;A=S;A=a", word: "a", nodes: "S01 A01", edges: "0.0.01 1.1.01 1.2.01", round: true},
		{text: "3 1;S=A;A=B;B=S;B=a", word: "a", nodes: "S01 A01 B01", edges: "0.0.01 1.1.01 2.2.01 2.3.01", round: true},
		{text: "2 1;S=AS;A=;S=a", word: "a", nodes: "A00 S01", edges: "0.1.0 1.0.001 1.2.01", round: true},
		{text: "2 1;S=SA;A=;S=a", word: "a", nodes: "S01 A11", edges: "0.0.011 0.2.01 1.1.1", round: true},
		{text: "2 1;S=ASAA;A=;S=a", word: "a", nodes: "A00 S01 A11", edges: "0.1.0 1.0.00111 1.2.01 2.1.1", round: true},
		{text: "1 1;S=SS;S=;S=a", word: "", nodes: "S00", edges: "0.0.000 0.1.0", round: true},
		{text: "1 1;S=SS;S=;S=a", word: "a", nodes: "S00 S01 S11",
			edges: "0.0.000 0.1.0 1.0.001 1.0.011 1.2.01 2.0.111 2.1.1", round: true},
		{text: "2 1;S=aA;A=A;A=a", word: "aa", nodes: "S02 A12", edges: "0.0.012 1.1.12 1.2.12", round: true},
		{text: "2 1;S=aA;S=A;A=S;A=", word: "a", nodes: "S01 A01 S11 A11", edges: "0.0.011 0.1.01 1.2.01 2.1.11 3.2.11 3.3.1", round: true},
		{text: "2 1;S=a;A=A;A=a", word: "a", nodes: "S01", edges: "0.0.01"},
		{text: "2 1;S=a;S=A;A=A", word: "a", nodes: "S01", edges: "0.0.01"},
		{text: "2 1;S=a;S=aA;A=AA;A=a", word: "a", nodes: "S01", edges: "0.0.01"},
		{text: "2 1;S=Aa;A=S;A=", word: "a", nodes: "A00 S01", edges: "0.2.0 1.0.001"},
	}
}

// orderForests are of what comes first, and of nodes that are not come to,
// though they derive their tokens.
func orderForests() []forestCase {
	return []forestCase{
		{text: "3 1;S=BA;S=A;A=a;A=aa;B=A;B=", word: "aa", nodes: "B00 A01 B01 S02 A02 A12",
			edges: "0.5.0 1.2.01 2.4.01 3.0.002 3.0.012 3.1.02 4.3.012 5.2.12"},
		{text: "3 1;B=;B=A;A=aa;A=a;S=A;S=BA", word: "aa", nodes: "B00 A01 B01 S02 A02 A12",
			edges: "0.0.0 1.3.01 2.1.01 3.4.02 3.5.002 3.5.012 4.2.012 5.3.12"},
		{text: "2 1;S=AA;S=A;A=aA;A=", word: "a", nodes: "A00 S01 A01 A11",
			edges: "0.3.0 1.0.001 1.0.011 1.1.01 2.2.011 3.3.1"},
		{text: "2 2;S=ab;A=a;A=b;A=ab;A=", word: "ab", nodes: "S02", edges: "0.0.012"},
		{text: "3 1;S=Aa;A=a;A=aa;B=a", word: "aa", nodes: "A01 S02", edges: "0.1.01 1.0.012"},
		{text: "2 1;S=aA;A=a;S=a", word: "aa", nodes: "S02 A12", edges: "0.0.012 1.1.12"},
		{text: "2 1;S=aa;S=AS;A=a;S=a", word: "aa", nodes: "A01 S02 S12", edges: "0.2.01 1.0.012 1.1.012 2.3.12"},
		{text: "3 1;S=AB;A=a;B=a;B=BB;A=BA", word: "aaa", nodes: "A01 B01 A02 S03 A12 B12 B13 B23",
			edges: "0.1.01 1.2.01 2.4.012 3.0.013 3.0.023 4.1.12 5.2.12 6.3.123 7.2.23"},
		{text: "1 1;S=SaS;S=a;S=aaa", word: "aaa", nodes: "S01 S03 S23", edges: "0.1.01 1.0.0123 1.2.0123 2.1.23"},
	}
}

// changedForests have one thing changed each, by name.
func changedForests(f impl.Forest) map[string]impl.Forest {
	out := map[string]impl.Forest{}
	put := func(name string, at int, change func(f *impl.Forest)) {
		changed := copyOfForest(f)
		change(&changed)
		out[name+" "+numberText(at)] = changed
	}
	for at, node := range f.Nodes {
		put("without node", at, func(f *impl.Forest) { f.Nodes = slices.Delete(f.Nodes, at, at+1) })
		put("node twice", at, func(f *impl.Forest) { f.Nodes = slices.Insert(f.Nodes, at, node) })
		put("node at the end", at, func(f *impl.Forest) { f.Nodes = append(f.Nodes, node) })
		if at > 0 {
			put("nodes changed over", at, func(f *impl.Forest) { f.Nodes[at], f.Nodes[at-1] = f.Nodes[at-1], f.Nodes[at] })
		}
	}
	for at, edge := range copyOfForest(f).Edges {
		put("without edge", at, func(f *impl.Forest) { f.Edges = slices.Delete(f.Edges, at, at+1) })
		put("edge twice", at, func(f *impl.Forest) { f.Edges = slices.Insert(f.Edges, at, edge) })
		put("edge at the end", at, func(f *impl.Forest) { f.Edges = append(f.Edges, edge) })
		put("one cut fewer", at, func(f *impl.Forest) { f.Edges[at].Cuts = edge.Cuts[1:] })
		put("one cut more", at, func(f *impl.Forest) { f.Edges[at].Cuts = append(f.Edges[at].Cuts, edge.Cuts[len(edge.Cuts)-1]) })
		put("no cuts", at, func(f *impl.Forest) { f.Edges[at].Cuts = nil })
		if at > 0 {
			put("edges changed over", at, func(f *impl.Forest) { f.Edges[at], f.Edges[at-1] = f.Edges[at-1], f.Edges[at] })
		}
	}
	for count := range len(numbersOfForest(&f)) {
		for _, by := range []int{-1, 1, 256, 1 << 32, -1 << 63} {
			put("changed by "+numberText(by)+" at", count, func(f *impl.Forest) { *numbersOfForest(f)[count] += by })
		}
	}
	put("without nodes", 0, func(f *impl.Forest) { f.Nodes = nil })
	put("without edges", 0, func(f *impl.Forest) { f.Edges = nil })
	put("zero node more", 0, func(f *impl.Forest) { f.Nodes = append(f.Nodes, impl.Node{}) })
	put("zero edge more", 0, func(f *impl.Forest) { f.Edges = append(f.Edges, impl.Edge{}) })
	return out
}

// numbersOfForest has all numbers of a forest, to be changed in place.
func numbersOfForest(f *impl.Forest) []*int {
	var numbers []*int
	for at := range f.Nodes {
		numbers = append(numbers, &f.Nodes[at].Non, &f.Nodes[at].From, &f.Nodes[at].To)
	}
	for at := range f.Edges {
		e := &f.Edges[at]
		numbers = append(numbers, &e.Node, &e.Rule)
		for k := range e.Cuts {
			numbers = append(numbers, &e.Cuts[k])
		}
	}
	return numbers
}
