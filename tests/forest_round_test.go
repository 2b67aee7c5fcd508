package tests

import (
	"testing"

	"loop.example/g00758/impl"
)

func TestHasRoundCases(t *testing.T) {
	for _, c := range forestCases() {
		is, ok := impl.HasRound(c.grammar(), c.forest())
		wantTold(t, c.text+" "+c.word, is, ok, c.round)
	}
}

// arrows are edges of nodes that stand one place behind the other: each from its
// first number to the others, by the rules of arrowGrammar: to none, to one, or
// to two that are beside each other.
func arrows(nodes int, edges ...[]int) impl.Forest {
	f := manyForest(nodes, 0)
	for _, edge := range edges {
		switch len(edge) {
		case 1:
			f.Edges = append(f.Edges, impl.Edge{Node: edge[0], Rule: 2, Cuts: []int{7}})
		case 2:
			f.Edges = append(f.Edges, impl.Edge{Node: edge[0], Rule: 0, Cuts: []int{edge[1], edge[1] + 1}})
		default:
			f.Edges = append(f.Edges, impl.Edge{Node: edge[0], Rule: 1, Cuts: []int{0, edge[1], edge[2], edge[2] + 1, 0}})
		}
	}
	return f
}

func arrowGrammar() impl.Grammar { return grammarOf("1 1;S=S;S=aSSa;S=") }

func TestHasRoundOfArrows(t *testing.T) {
	g := arrowGrammar()
	for name, f := range map[string]impl.Forest{
		"neither nodes nor edges":        arrows(0),
		"nodes alone":                    arrows(5),
		"edges that lead nowhere":        arrows(2, []int{0}, []int{1}, []int{1}),
		"one edge":                       arrows(2, []int{0, 1}),
		"one edge back":                  arrows(2, []int{1, 0}),
		"one edge twice":                 arrows(2, []int{0, 1}, []int{0, 1}),
		"a chain":                        arrows(4, []int{0, 1}, []int{1, 2}, []int{2, 3}),
		"a chain back":                   arrows(4, []int{3, 2}, []int{2, 1}, []int{1, 0}),
		"a chain in no order":            arrows(5, []int{2, 0}, []int{4, 2}, []int{0, 3}, []int{3, 1}),
		"two ways to one":                arrows(4, []int{0, 1, 2}, []int{1, 3}, []int{2, 3}),
		"two ways to one, several times": arrows(4, []int{0, 1, 2}, []int{0, 3}, []int{1, 3}, []int{2, 3}, []int{1, 2}, []int{1, 2}),
		"a long way and a short one":     arrows(6, []int{0, 1}, []int{1, 2}, []int{2, 3}, []int{3, 4}, []int{4, 5}, []int{0, 5}, []int{1, 4, 5}),
		"two chains":                     arrows(6, []int{0, 2}, []int{2, 4}, []int{1, 3}, []int{3, 5}),
	} {
		is, ok := impl.HasRound(g, f)
		wantTold(t, name, is, ok, false)
	}
	for name, f := range map[string]impl.Forest{
		"to itself":                    arrows(1, []int{0, 0}),
		"to itself, the last":          arrows(3, []int{0, 1}, []int{1, 2}, []int{2, 2}),
		"to itself, not come to":       arrows(3, []int{0, 1}, []int{2, 2}),
		"to itself beside another":     arrows(3, []int{1, 1, 2}),
		"to itself behind another":     arrows(3, []int{1, 0, 1}),
		"to each other":                arrows(2, []int{0, 1}, []int{1, 0}),
		"to each other, not come to":   arrows(4, []int{0, 1}, []int{2, 3}, []int{3, 2}),
		"to each other, and on":        arrows(4, []int{1, 2}, []int{2, 1}, []int{2, 3}),
		"to each other, behind others": arrows(4, []int{0, 1}, []int{1, 2}, []int{2, 3}, []int{3, 2}),
		"to each other, the last edge": arrows(4, []int{0, 1}, []int{1, 2}, []int{2, 3}, []int{0, 3}, []int{3, 2}),
		"three":                        arrows(3, []int{0, 1}, []int{1, 2}, []int{2, 0}),
		"three, against":               arrows(3, []int{2, 1}, []int{0, 2}, []int{1, 0}),
		"by the second of an edge":     arrows(4, []int{0, 1, 2}, []int{1, 3}, []int{2, 3}, []int{3, 2}),
		"by another edge of the first": arrows(4, []int{0, 1}, []int{0, 2, 3}, []int{0, 3}, []int{3, 0}),
		"two rounds":                   arrows(4, []int{0, 1}, []int{1, 0}, []int{2, 3}, []int{3, 2}),
	} {
		is, ok := impl.HasRound(g, f)
		wantTold(t, name, is, ok, true)
	}
}

// wayBack tells by ever more steps whether some node is come to from itself.
func wayBack(nodes int, arrows lists) bool {
	reach := make([][]bool, nodes)
	for node := range reach {
		reach[node] = make([]bool, nodes)
	}
	for range nodes {
		for _, arrow := range arrows {
			for _, to := range arrow[1:] {
				reach[arrow[0]][to] = true
				for far := range nodes {
					reach[arrow[0]][far] = reach[arrow[0]][far] || reach[to][far]
				}
			}
		}
	}
	for node := range nodes {
		if reach[node][node] {
			return true
		}
	}
	return false
}

func TestHasRoundOfPickedArrows(t *testing.T) {
	g, seen, p := arrowGrammar(), tally{}, picker{113}
	for range 6000 {
		nodes := 1 + p.pick(7)
		var edges lists
		for range p.pick(9) {
			edge := []int{p.pick(nodes)}
			for range p.pick(3) {
				edge = append(edge, p.pick(nodes))
			}
			edges = append(edges, edge)
		}
		f := arrowsToAny(nodes, edges)
		want := wayBack(nodes, edges)
		is, ok := impl.HasRound(g, f)
		wantTold(t, "picked", is, ok, want)
		seen[want]++
	}
	seen.wantBoth(t, 1000)
}

// arrowsToAny needs no nodes that are beside each other: of an edge to two
// nodes it makes two edges.
func arrowsToAny(nodes int, edges lists) impl.Forest {
	var single lists
	for _, edge := range edges {
		if len(edge) == 1 {
			single = append(single, edge)
		}
		for _, to := range edge[1:] {
			single = append(single, []int{edge[0], to})
		}
	}
	return arrows(nodes, single...)
}

// All of at most three nodes, with all sets of edges between them.
func TestHasRoundOfAllSmallForests(t *testing.T) {
	g, seen := arrowGrammar(), tally{}
	for nodes := 1; nodes <= 3; nodes++ {
		for set := range 1 << (nodes * nodes) {
			var edges lists
			for at := range nodes * nodes {
				if set>>at&1 == 1 {
					edges = append(edges, []int{at / nodes, at % nodes})
				}
			}
			want := wayBack(nodes, edges)
			is, ok := impl.HasRound(g, arrowsToAny(nodes, edges))
			wantTold(t, "small", is, ok, want)
			seen[want]++
		}
	}
	seen.wantBoth(t, 25)
}

func TestHasRoundWantsChildrenOfEachEdge(t *testing.T) {
	for _, c := range childrenCases() {
		g, f := grammarOf(c.text), forestOf(c.nodes, c.edge)
		is, ok := impl.HasRound(g, f)
		if !c.isTold() || f.Edges[0].Node >= len(f.Nodes) {
			wantNotTold(t, c.name, is, ok)
		} else if !ok {
			t.Error("not told", c.name)
		}
	}
	g := arrowGrammar()
	for _, bad := range []impl.Edge{{}, {Rule: 3, Cuts: []int{0}}, {Rule: -1, Cuts: []int{0}}, {Rule: 2}, {Rule: 2, Cuts: []int{0, 0}},
		{Rule: 0, Cuts: []int{0, 2}}, {Rule: 0, Cuts: []int{3, 4}}, {Rule: 1, Cuts: []int{0, 0, 1, 1, 1}}} {
		for _, f := range []impl.Forest{arrows(3), arrows(3, []int{0, 0}, []int{1, 1}), arrows(3, []int{0, 1}, []int{1, 2})} {
			for at := range len(f.Edges) + 1 {
				with := copyOfForest(f)
				with.Edges = append(with.Edges[:at:at], append([]impl.Edge{bad}, with.Edges[at:]...)...)
				is, ok := impl.HasRound(g, with)
				wantNotTold(t, "bad edge", is, ok)
			}
		}
	}
}

func TestHasRoundWantsTheNodeOfEachEdge(t *testing.T) {
	g := arrowGrammar()
	for _, node := range noPlaces(3) {
		for _, f := range []impl.Forest{arrows(3), arrows(3, []int{0, 0}, []int{1, 1}), arrows(3, []int{0, 1}, []int{1, 2})} {
			for at := range len(f.Edges) + 1 {
				for _, edge := range []impl.Edge{{Node: node, Rule: 2, Cuts: []int{0}}, {Node: node, Rule: 0, Cuts: []int{0, 1}}} {
					with := copyOfForest(f)
					with.Edges = append(with.Edges[:at:at], append([]impl.Edge{edge}, with.Edges[at:]...)...)
					is, ok := impl.HasRound(g, with)
					wantNotTold(t, "no node "+numberText(node), is, ok)
				}
			}
		}
	}
	is, ok := impl.HasRound(g, impl.Forest{Edges: []impl.Edge{{Rule: 2, Cuts: []int{0}}}})
	wantNotTold(t, "no nodes", is, ok)
}

// Of nodes that are the same the first one is led to; they are two all the same.
func TestHasRoundOfANodeThatIsThereTwice(t *testing.T) {
	g := arrowGrammar()
	twice := []impl.Node{{To: 1}, {To: 1}}
	for node, want := range []bool{true, false} {
		is, ok := impl.HasRound(g, impl.Forest{Nodes: twice, Edges: []impl.Edge{{Node: node, Rule: 0, Cuts: []int{0, 1}}}})
		wantTold(t, "edge of "+numberText(node), is, ok, want)
	}
}

// The Left of an edge's rule needs not be its node's nonterminal.
func TestHasRoundOfEdgesThatNoWordHas(t *testing.T) {
	g := grammarOf("2 1;S=A;A=S;A=a")
	f := forestOf("S95 A95", "0.1.95 1.2.00")
	is, ok := impl.HasRound(g, f)
	wantTold(t, "to itself by another's rule", is, ok, true)
	f = forestOf("S95 A95", "1.1.95 1.1.95 0.2.73")
	is, ok = impl.HasRound(g, f)
	wantTold(t, "to the other", is, ok, false)
}

func TestHasRoundOfNoGoodGrammar(t *testing.T) {
	for name, g := range badGrammars() {
		for _, f := range []impl.Forest{{}, forestOf("S01", "0.0.01"), forestOf("S00", "0.0.0"), forestOf("S01 S02", "1.0.0 0.1.01")} {
			is, ok := impl.HasRound(g, f)
			wantNotTold(t, name, is, ok)
		}
	}
}

func TestHasRoundLimits(t *testing.T) {
	g := arrowGrammar()
	var chain lists
	for at := range 599 {
		chain = append(chain, []int{at, at + 1})
	}
	is, ok := impl.HasRound(g, arrows(600, chain...))
	wantTold(t, "600 nodes", is, ok, false)
	is, ok = impl.HasRound(g, arrows(600, append(chain, []int{0})...))
	wantTold(t, "600 nodes and edges", is, ok, false)
	for _, to := range []int{0, 300, 599} {
		is, ok = impl.HasRound(g, arrows(600, append(chain, []int{599, to})...))
		wantTold(t, "600 nodes and edges, back", is, ok, true)
	}
	is, ok = impl.HasRound(g, arrows(601, chain...))
	wantNotTold(t, "601 nodes", is, ok)
	is, ok = impl.HasRound(g, arrows(600, append(chain, []int{0}, []int{0})...))
	wantNotTold(t, "601 edges", is, ok)
	for _, f := range append(tooMany(), manyForest(601, 0), manyForest(5000, 0)) {
		is, ok = impl.HasRound(grammarOf(pairsText), f)
		wantNotTold(t, "too many", is, ok)
	}
	is, ok = impl.HasRound(grammarOf(pairsText), manyForest(600, 600))
	wantTold(t, "600 edges of one node", is, ok, false)
}
