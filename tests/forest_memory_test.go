package tests

import (
	"math"
	"reflect"
	"slices"
	"testing"

	"loop.example/g00758/impl"
)

// forestArguments are what the functions of chapter 9 are asked.
type forestArguments struct {
	g          impl.Grammar
	w          []int
	f, other   impl.Forest
	node, edge int
}

var spareNode = impl.Node{Non: spare, From: spare, To: spare}

// roomyForest has more behind the lengths of all lists.
func roomyForest(f impl.Forest) impl.Forest {
	out := impl.Forest{Nodes: append(slices.Clone(f.Nodes), spareNode, spareNode)[:len(f.Nodes)]}
	for _, e := range f.Edges {
		out.Edges = append(out.Edges, impl.Edge{Node: e.Node, Rule: e.Rule, Cuts: roomy(e.Cuts)})
	}
	for range 2 {
		out.Edges = append(out.Edges, impl.Edge{Node: spare, Rule: spare, Cuts: []int{spare}})
	}
	out.Edges = out.Edges[:len(f.Edges)]
	return out
}

func pictureOfForest(f impl.Forest) lists {
	picture := lists{{len(f.Nodes), len(f.Edges)}}
	for _, n := range whole(f.Nodes) {
		picture = append(picture, []int{n.Non, n.From, n.To})
	}
	for _, e := range whole(f.Edges) {
		picture = append(picture, []int{e.Node, e.Rule, len(e.Cuts)}, slices.Clone(whole(e.Cuts)))
	}
	return picture
}

func (a forestArguments) roomy() forestArguments {
	a.g, a.w, a.f, a.other = roomyGrammar(a.g), roomy(a.w), roomyForest(a.f), roomyForest(a.other)
	return a
}

func (a forestArguments) picture() lists {
	words := lists{{len(a.w)}, slices.Clone(whole(a.w))}
	return slices.Concat(pictureOf(a.g), words, pictureOfForest(a.f), pictureOfForest(a.other))
}

type forestAnswers struct {
	told            []bool
	sizes           []int
	forest          impl.Forest
	edges, children []int
}

func askForests(a forestArguments) forestAnswers {
	var out forestAnswers
	var forestOk, edgesOk, childrenOk bool
	out.forest, forestOk = impl.ForestOf(a.g, a.w)
	out.edges, edgesOk = impl.EdgesOf(a.f, a.node)
	out.children, childrenOk = impl.ChildrenOf(a.g, a.f, a.edge)
	round, roundOk := impl.HasRound(a.g, a.f)
	nodes, edges, sizeOk := impl.PackedSize(a.f)
	out.sizes = []int{nodes, edges}
	good, same := impl.GoodForest(a.g, a.w, a.f), impl.SameForest(a.f, a.other)
	out.told = []bool{forestOk, good, edgesOk, childrenOk, round, roundOk, same, sizeOk}
	return out
}

func sameForestAnswers(a, b forestAnswers) bool {
	return slices.Equal(a.told, b.told) && slices.Equal(a.sizes, b.sizes) && sameForests(a.forest, b.forest) &&
		slices.Equal(a.edges, b.edges) && slices.Equal(a.children, b.children)
}

// spoilForests writes into all lists, and then into the lists of nodes and edges.
func spoilForests(t *testing.T, name string, a forestAnswers) {
	t.Helper()
	cuts := lists{a.edges, a.children}
	for at, e := range whole(a.forest.Edges) {
		if at >= len(a.forest.Edges) && (e.Node != 0 || e.Rule != 0 || e.Cuts != nil) {
			t.Error(name, "hands out an edge behind a length")
		}
		cuts = append(cuts, e.Cuts)
	}
	checkApart(t, name, cuts)
	if slices.Contains(whole(a.forest.Nodes), spareNode) {
		t.Error(name, "hands out nodes behind a length")
	}
	for at := range whole(a.forest.Nodes) {
		whole(a.forest.Nodes)[at] = impl.Node{Non: -77}
	}
	for at := range whole(a.forest.Edges) {
		whole(a.forest.Edges)[at] = impl.Edge{Node: -77}
	}
}

// eachForestArgument has arguments that fit each other, and those that do not.
func eachForestArgument(ask func(name string, a forestArguments)) {
	small := forestOf("S01 S02 S12", "0.1.01 1.0.012 2.1.12")
	for name, g := range everyGrammar() {
		for n, w := range append(everyList(), wordOf("abab")) {
			ask(name, forestArguments{g, w, small, small, n % 4, n % 5})
		}
	}
	for _, c := range forestCases() {
		f := c.forest()
		for at := range max(len(f.Nodes), len(f.Edges)) + 1 {
			ask(c.text, forestArguments{c.grammar(), wordOf(c.word), f, copyOfForest(f), at, at})
		}
	}
	g := grammarOf("1 1;S=SS;S=;S=a")
	for name, f := range changedForests(wholeForest(g, []int{0})) {
		for at := range 4 {
			ask(name, forestArguments{g, []int{0}, f, wholeForest(g, []int{0}), at, 2*at - 1})
		}
	}
	for _, c := range childrenCases() {
		ask(c.name, forestArguments{grammarOf(c.text), wordOf("aab"), forestOf(c.nodes, c.edge), impl.Forest{}, 0, 0})
	}
	for _, f := range append(tooMany(), manyForest(600, 600), arrows(3, []int{0, 1}, []int{1, 0}), arrows(3, []int{0, 1})) {
		ask("many", forestArguments{arrowGrammar(), nil, f, copyOfForest(f), 1, 1})
		ask("many pairs", forestArguments{grammarOf(pairsText), []int{0, 1}, f, small, 2, 2})
	}
	ask("most", forestArguments{grammarOf(mostEdges), wordOf(mostEdgesWord), small, small, 0, 0})
	ask("more", forestArguments{grammarOf(mostEdges + ";S=aab"), wordOf(mostEdgesWord), small, small, 0, 0})
}

// Promise 21.
func TestForestsNeitherChangeNorShareArguments(t *testing.T) {
	eachForestArgument(func(name string, plain forestArguments) {
		a := plain.roomy()
		before := a.picture()
		answers := askForests(a)
		if !reflect.DeepEqual(before, a.picture()) {
			t.Fatal("an argument was changed:", name, plain)
		}
		spoilForests(t, name, answers)
		if !reflect.DeepEqual(before, a.picture()) {
			t.Fatal("an answer shares memory with an argument:", name, plain)
		}
	})
}

func TestForestsDoNotReadBehindALength(t *testing.T) {
	eachForestArgument(func(name string, a forestArguments) {
		if tight, loose := askForests(a), askForests(a.roomy()); !sameForestAnswers(tight, loose) {
			t.Fatal(name, a, tight, loose)
		}
	})
}

// cutForest has so many nodes and edges, and so many cuts fewer, the others
// being still there behind the lengths.
func cutForest(f impl.Forest, nodes, edges, cuts int) impl.Forest {
	out := copyOfForest(f)
	out.Nodes, out.Edges = out.Nodes[:nodes], out.Edges[:edges]
	for at, e := range out.Edges {
		out.Edges[at].Cuts = e.Cuts[:max(len(e.Cuts)-cuts, 0)]
	}
	return out
}

// tightForest has nothing behind a length.
func tightForest(f impl.Forest) impl.Forest {
	out := impl.Forest{Nodes: slices.Clip(slices.Clone(f.Nodes))}
	for _, e := range f.Edges {
		out.Edges = append(out.Edges, impl.Edge{Node: e.Node, Rule: e.Rule, Cuts: slices.Clip(slices.Clone(e.Cuts))})
	}
	out.Edges = slices.Clip(out.Edges)
	return out
}

// What is behind a length must not show, though it would fit.
func TestForestsDoNotReadWhatFitsBehindALength(t *testing.T) {
	g, word := grammarOf("1 1;S=SS;S=a"), make([]int, 3)
	f := wholeForest(g, word)
	for nodes := range len(f.Nodes) + 1 {
		for edges := range len(f.Edges) + 1 {
			for cuts := range 2 {
				for at := range 7 {
					cut := cutForest(f, nodes, edges, cuts)
					tight := tightForest(cut)
					got := askForests(forestArguments{g, word, cut, f, at, at})
					want := askForests(forestArguments{g, word, tight, f, at, at})
					isWhole := nodes == len(f.Nodes) && edges == len(f.Edges) && cuts == 0
					if !sameForestAnswers(got, want) || got.told[1] != isWhole || got.told[6] != isWhole ||
						got.told[2] != (at < nodes) || got.told[3] && at >= edges || got.sizes[0] != nodes || got.sizes[1] != edges {
						t.Error(nodes, edges, cuts, at, got, want)
					}
				}
			}
		}
	}
	for long := range 4 {
		for rules := range 3 {
			cut := impl.Grammar{Nons: 1, Toks: 1, Rules: g.Rules[:rules]}
			tight := impl.Grammar{Nons: 1, Toks: 1, Rules: slices.Clip(slices.Clone(g.Rules[:rules]))}
			got := askForests(forestArguments{g: cut, w: word[:long], f: f})
			want := askForests(forestArguments{g: tight, w: slices.Clip(slices.Clone(word[:long])), f: f})
			if !sameForestAnswers(got, want) || !got.told[0] || len(got.forest.Nodes) > 0 != (rules == 2 && long > 0) {
				t.Error(long, rules, got, want)
			}
		}
	}
}

func TestForestsKeepNothingFromCallToCall(t *testing.T) {
	eachForestArgument(func(name string, a forestArguments) {
		want := askForests(a)
		for range 2 {
			spoilForests(t, name, askForests(a))
			if !sameForestAnswers(want, askForests(a)) {
				t.Fatal("another answer at a later call:", name, a)
			}
		}
	})
	p := picker{131}
	for _, g := range pickedGrammars(100, 6, 17, 5) {
		w := p.word(g.Toks, 4)
		a := forestArguments{g: g, w: w, f: wholeForest(g, w)}
		want := askForests(a)
		for range 20 {
			if !sameForestAnswers(want, askForests(a)) {
				t.Fatal("another answer at a later call:", a)
			}
		}
	}
}

// Lists of an argument may share memory; those of an answer may not.
func TestForestsOfListsThatShareMemory(t *testing.T) {
	numbers := []int{0, 0, 1, 2, 2}
	g := grammar(1, 1, rule(0), rule(0), rule(0))
	g.Rules[0].Right, g.Rules[1].Right = numbers[:2], numbers[:1]
	f := impl.Forest{Nodes: forestOf("S00 S01 S12", "").Nodes}
	for at := range 3 {
		f.Edges = append(f.Edges, impl.Edge{Node: at, Rule: at % 2, Cuts: numbers[1 : 4-at%2]})
	}
	got := askForests(forestArguments{g, numbers[:0], f, f, 2, 0})
	want := forestAnswers{
		told: []bool{true, false, true, true, true, true, true, true}, sizes: []int{3, 3},
		forest: forestOf("S00", "0.0.000 0.1.00 0.2.0"), edges: []int{2}, children: []int{1, 2},
	}
	if !sameForestAnswers(got, want) {
		t.Error(got, want)
	}
	spoilForests(t, "shared", got)
	if !slices.Equal(numbers, []int{0, 0, 1, 2, 2}) {
		t.Error("an argument was changed:", numbers)
	}
}

func TestNoForestPanics(t *testing.T) {
	defer func() {
		if p := recover(); p != nil {
			t.Error("panic:", p)
		}
	}()
	numbers := append(oddInts(), -2, -1, 0, 1, 2, 4, 5, 10, 11, 600)
	for _, x := range numbers {
		for _, y := range numbers {
			for _, z := range numbers {
				list := []int{x, y, z}
				f := impl.Forest{Nodes: []impl.Node{{Non: x, From: y, To: z}, {Non: z, From: x, To: x}},
					Edges: []impl.Edge{{Node: x, Rule: y, Cuts: list}, {Node: y, Rule: z, Cuts: list[:2]}, {Node: z, Rule: x, Cuts: list[:1]}, {Rule: 1, Cuts: list}}}
				for edge := range 4 {
					one := impl.Forest{Nodes: f.Nodes, Edges: f.Edges[edge:]}
					askForests(forestArguments{grammar(x, y, rule(z, z, x, y), rule(0)), list, one, f, x, edge})
					askForests(forestArguments{grammarOf("2 1;S=AA;S=A;A=;A=a"), list[:1], one, f, y, z})
				}
			}
		}
	}
	huge := slices.Repeat([]int{math.MaxInt}, 100000)
	many := impl.Forest{Nodes: slices.Repeat([]impl.Node{spareNode}, 100000), Edges: slices.Repeat([]impl.Edge{{Node: math.MinInt, Rule: math.MaxInt, Cuts: huge}}, 100)}
	askForests(forestArguments{grammarOf(pairsText), huge, many, many, math.MaxInt, math.MinInt})
	many.Nodes = many.Nodes[:600]
	askForests(forestArguments{grammarOf(pairsText), huge[:10], many, many, math.MinInt, math.MaxInt})
	for at := range many.Edges {
		many.Edges[at] = impl.Edge{Node: 599, Rule: 1, Cuts: huge[:1]}
	}
	askForests(forestArguments{grammarOf(pairsText), nil, many, many, 599, 99})
}
