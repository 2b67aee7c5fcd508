package tests

import (
	"math/big"
	"slices"
	"strings"
	"testing"

	"loop.example/g00758/impl"
)

// What stands for a number of trees where none is told.
const (
	endless = -1
	beyond  = -2
	untold  = -3
)

const mostTrees = 1000000000

// countCase is a grammar, a word, and what there is of its trees, written by
// hand: how many, how many of each size up to 20, and the least size, 0 where
// there is none of 40 at most.
type countCase struct {
	text, word string
	trees      int
	sizes      string
	least      int
}

func (c countCase) grammar() impl.Grammar { return grammarOf(c.text) }

func (c countCase) name() string { return c.text + " " + c.word }

// sizesOf reads 3:1 5:2, a size and how many there are of it.
func sizesOf(text string) []int {
	sizes := make([]int, 21)
	for _, field := range strings.Fields(text) {
		parts := strings.Split(field, ":")
		sizes[numberOf(parts[0])] = numberOf(parts[1])
	}
	return sizes
}

// eachSize has one tree of each size from the first on, one step behind the other.
func eachSize(first, step int) string {
	text := ""
	for size := first; size <= 20; size += step {
		text += numberText(size) + ":1 "
	}
	return text
}

func countCases() []countCase {
	cases := append(plainCounts(), emptyCounts()...)
	cases = append(cases, roundCounts()...)
	cases = append(cases, notReachedCounts()...)
	cases = append(cases, greatCounts()...)
	return append(cases, highCounts()...)
}

func plainCounts() []countCase {
	const pairs = "1 2;S=aSb;S="
	const twice = "1 1;S=SS;S=a"
	const other = "1 2;S=aS;S=aSbS;S="
	const sums = "1 3;S=SaS;S=SbS;S=c"
	return []countCase{
		{pairs, "", 1, "1:1", 1},
		{pairs, "ab", 1, "2:1", 2},
		{pairs, "aaaaabbbbb", 1, "6:1", 6},
		{pairs, "aab", 0, "", 0},
		{pairs, "ba", 0, "", 0},
		{twice, "", 0, "", 0},
		{twice, "a", 1, "1:1", 1},
		{twice, "aa", 1, "3:1", 3},
		{twice, "aaa", 2, "5:2", 5},
		{twice, "aaaa", 5, "7:5", 7},
		{twice, "aaaaaaaaaa", 4862, "19:4862", 19},
		{"1 1", "", 0, "", 0},
		{"1 1", "a", 0, "", 0},
		{"6 4", "abcd", 0, "", 0},
		{"2 1;A=a", "a", 0, "", 0},
		{"1 1;S=a", "aa", 0, "", 0},
		{"1 2;S=abab", "abab", 1, "1:1", 1},
		{"1 4;S=d", "d", 1, "1:1", 1},
		{"1 4;S=d", "c", 0, "", 0},
		{"2 1;S=A;S=a;A=a", "a", 2, "1:1 2:1", 1},
		{"2 1;A=a;S=A;S=a", "a", 2, "1:1 2:1", 1},
		{"3 1;S=A;S=B;A=a;B=a", "a", 2, "2:2", 2},
		{"4 1;S=A;S=B;S=C;A=a;B=a;C=a", "a", 3, "2:3", 2},
		{"6 1;S=E;E=D;D=C;C=B;B=A;A=a", "a", 1, "6:1", 6},
		{"6 1;S=A;A=B;B=C;C=D;D=E;E=a", "a", 1, "6:1", 6},
		{"3 2;S=AB;A=a;A=aa;B=b;B=ab", "aab", 2, "3:2", 3},
		{"3 2;S=AB;A=a;A=aa;B=b;B=ab", "ab", 1, "3:1", 3},
		{"3 2;S=AB;A=a;A=aa;B=b;B=ab", "aaab", 1, "3:1", 3},
		{"1 1;S=SaS;S=a;S=aaa", "aaa", 2, "1:1 3:1", 1},
		{other, "ab", 1, "3:1", 3},
		{other, "aab", 2, "4:2", 4},
		{other, "aabb", 1, "5:1", 5},
		{other, "aaab", 3, "5:3", 5},
		{sums, "c", 1, "1:1", 1},
		{sums, "cacbc", 2, "5:2", 5},
		{sums, "cacacac", 5, "7:5", 7},
		{"3 3;S=SaA;S=A;A=AbB;A=B;B=c", "cacbc", 1, "8:1", 8},
		{"2 1;S=Aa;S=aA;A=aa;A=a", "aaa", 2, "2:2", 2},
		{"2 1;S=AA;S=AAA;A=a;A=aa", "aaa", 3, "3:2 4:1", 3},
	}
}

func emptyCounts() []countCase {
	const four = "2 1;S=AAAA;A=;A=a"
	return []countCase{
		{"1 1;S=", "", 1, "1:1", 1},
		{"1 1;S=", "a", 0, "", 0},
		{"2 1;S=A;A=;S=", "", 2, "1:1 2:1", 1},
		{"2 1;S=AA;A=;A=a", "", 1, "3:1", 3},
		{"2 1;S=AA;A=;A=a", "a", 2, "3:2", 3},
		{"2 1;S=AA;A=;A=a", "aa", 1, "3:1", 3},
		{"2 1;S=AA;A=;A=a", "aaa", 0, "", 0},
		{four, "", 1, "5:1", 5},
		{four, "a", 4, "5:4", 5},
		{four, "aa", 6, "5:6", 5},
		{four, "aaa", 4, "5:4", 5},
		{four, "aaaa", 1, "5:1", 5},
		{four, "aaaaa", 0, "", 0},
		{"2 1;S=AAA;S=AA;A=;A=a", "a", 5, "3:2 4:3", 3},
		{"4 1;S=ABC;A=;B=A;C=BB", "", 1, "9:1", 9},
		{"2 2;S=aAAb;A=", "ab", 1, "3:1", 3},
		{"2 3;S=aAAb;A=;A=c", "acb", 2, "3:2", 3},
		{"1 1;S=aS;S=", "aaaaaaaaaa", 1, "11:1", 11},
		{"1 1;S=Sa;S=", "aaaaaaaaaa", 1, "11:1", 11},
		{"2 1;S=Aa;A=S;A=", "a", 1, "2:1", 2},
		{"2 1;S=Aa;A=S;A=", "aa", 1, "4:1", 4},
	}
}

// roundCounts are of nonterminals that stand for themselves, or for each other.
func roundCounts() []countCase {
	const itself = "1 1;S=SS;S=;S=a"
	const behind = "2 1;S=a;S=aaA;A=AA;A="
	return []countCase{
		{"1 1;S=S;S=a", "a", endless, eachSize(1, 1), 1},
		{"1 1;S=a;S=S", "a", endless, eachSize(1, 1), 1},
		{"1 1;S=S;S=", "", endless, eachSize(1, 1), 1},
		{"1 1;S=S", "", 0, "", 0},
		{"1 1;S=S;S=a", "aa", 0, "", 0},
		{"2 1;S=A;A=S;A=a", "a", endless, eachSize(2, 2), 2},
		{"2 1;S=A;S=S;A=S", "a", 0, "", 0},
		{"3 1;S=A;A=B;B=S;B=a", "a", endless, eachSize(3, 3), 3},
		{"6 1;S=A;A=B;B=C;C=D;D=E;E=S;E=a", "a", endless, eachSize(6, 6), 6},
		{"2 1;S=AS;A=;S=a", "a", endless, eachSize(1, 2), 1},
		{"2 1;S=SA;A=;S=a", "a", endless, eachSize(1, 2), 1},
		{"2 1;S=ASAA;A=;S=a", "a", endless, eachSize(1, 4), 1},
		{itself, "", endless, "1:1 3:1 5:2 7:5 9:14 11:42 13:132 15:429 17:1430 19:4862", 1},
		{itself, "a", endless, "1:1 3:2 5:6 7:20 9:70 11:252 13:924 15:3432 17:12870 19:48620", 1},
		{"2 1;S=aA;A=A;A=a", "aa", endless, eachSize(2, 1), 2},
		{"2 1;S=aA;A=A;A=a", "a", 0, "", 0},
		{behind, "aa", endless, "2:1 4:1 6:2 8:5 10:14 12:42 14:132 16:429 18:1430 20:4862", 2},
		{"2 1;S=aA;S=A;A=S;A=", "", endless, eachSize(2, 2), 2},
	}
}

// notReachedCounts have what goes round, or has many trees, by no tree of the word.
func notReachedCounts() []countCase {
	const behind = "2 1;S=a;S=aaA;A=AA;A="
	const further = "2 1;S=a;S=aA;A=A;A=aa"
	const beside = "3 1;S=A;A=a;B=B;B=a;S=aB"
	return []countCase{
		{"2 1;S=a;A=A;A=a", "a", 1, "1:1", 1},
		{"2 1;S=a;S=A;A=A", "a", 1, "1:1", 1},
		{"2 1;S=a;S=aA;A=AA;A=a", "a", 1, "1:1", 1},
		{"2 1;S=a;S=aA;A=AA;A=a", "aa", 1, "2:1", 2},
		{"2 1;S=a;S=aA;A=AA;A=a", "aaa", 1, "4:1", 4},
		{"2 1;S=a;S=aA;A=AA;A=a", "aaaa", 2, "6:2", 6},
		{behind, "a", 1, "1:1", 1},
		{further, "a", 1, "1:1", 1},
		{further, "aa", 0, "", 0},
		{further, "aaa", endless, eachSize(2, 1), 2},
		{beside, "a", 1, "2:1", 2},
		{beside, "aa", endless, eachSize(2, 1), 2},
		{"4 1;S=A;A=a;B=BB;B=;B=a;C=B", "a", 1, "2:1", 2},
		{"4 1;S=A;S=BC;A=a;B=BB;B=;B=a;C=C", "a", 1, "2:1", 2},
		{"3 2;S=Ab;A=a;A=AB;B=B;B=b", "ab", 1, "2:1", 2},
		{"6 1;S=a;A=BBBB;B=CCCC;C=DDDD;D=E;D=;D=EE;E=", "a", 1, "1:1", 1},
		{"6 1;S=A;A=a;B=B;C=CC;C=;D=DD;D=B;E=EA;E=A", "a", 1, "2:1", 2},
	}
}

// tenOfThree has ten trees for each token, three of which come at a time.
const tenOfThree = "S=AAAS;S=AAA;A=B;A=BC;A=CB;A=CBC;A=CCB;B=a;B=aC;C="

// oneMore has one tree more than that.
const oneMore = "S=E;S=D;D=aaaD;D=aaa;E=AAAE;E=AAA;A=B;A=BC;A=CB;A=CBC;A=CCB;B=a;B=aC;C="

// sameSized has all trees of a word of one size.
const sameSized = "4 1;S=SS;S=SA;S=SB;S=SC;S=AS;S=BS;S=CS;S=AB;S=BA;S=AC;S=CA;S=BC;S=a;A=a;B=a;C=a"

// greatCounts go near MostTrees, to it, and beyond.
func greatCounts() []countCase {
	const three = "7:1 8:9 9:39 10:105 11:192 12:246 13:220 14:132 15:48 16:8"
	return []countCase{
		{"4 1;" + tenOfThree, "aaa", 1000, three, 7},
		{"4 1;" + tenOfThree, "aaaaaaaaa", mostTrees, "", 21},
		{"6 1;" + oneMore, "aaaaaaaaa", beyond, "4:1", 4},
		{"6 1;" + oneMore, "aaa", 1001, "2:1 8:1 9:9 10:39 11:105 12:192 13:246 14:220 15:132 16:48 17:8", 2},
		{"4 1;" + tenOfThree + ";S=AAAA", "aaaaaaaaaa", beyond, "", 23},
		{"4 1;S=AAAA;" + tenOfThree, "aaaaaaa", 10000000, "16:1 17:21 18:217 19:1463 20:7203", 16},
		{"5 1;S=AAAA;A=BBBB;B=CCCC;C=DDDD;D=;D=a", "", 1, "", 0},
		{"5 1;S=AAAA;A=BBBB;B=CCCC;C=DDDD;D=;D=a", "a", 256, "", 0},
		{"5 1;S=AAAA;A=BBBB;B=CCCC;C=DDDD;D=;D=a", "aaaa", 174792640, "", 0},
		{"5 1;S=AAAA;A=BBBB;B=CCCC;C=DDDD;D=;D=a", "aaaaa", untold, "", 0},
		{"4 1;S=AAAA;A=BBBB;B=CCCC;C=;C=a", "aaaaa", 7624512, "", 0},
		{"4 1;S=AA;A=BBBB;B=CC;B=C;B=;C=", "", 6561, "11:1 12:8 13:36 14:112 15:266 16:504 17:784 18:1016 19:1107 20:1016", 11},
		{"5 1;S=AA;A=BBBB;B=CCCC;C=;C=D;C=DD;D=", "", beyond, "", 0},
		{"6 1;S=AAAA;A=BBBB;B=CCCC;C=DDDD;D=;D=E;D=EE;E=", "", beyond, "", 0},
		{"6 1;S=AA;A=BB;A=BBB;A=BBBB;A=BBC;A=BCB;A=CBB;A=BBD;A=BDB;A=DBB;A=BBE;B=CCCC;C=DDDD;D=;D=E;E=", "", beyond, "", 0},
		{"6 1;S=AAAa;A=BBBB;B=CCCC;C=DDDD;D=;D=E;D=EE;E=;S=a", "a", beyond, "1:1", 1},
		{sameSized, "aaaa", 912, "7:912", 7},
		{sameSized, "aaaaaaaaa", 191993856, "17:191993856", 17},
		{sameSized, "aaaaaaaaaa", beyond, "19:1000000000", 19},
		{"1 1;S=SSSS;S=SSS;S=SS;S=a", "aaaaaaaaaa", untold, "13:22 14:1144 15:9009 16:25025 17:32032 18:19448 19:4862", 13},
	}
}

// highCounts have least sizes near 20 and 40, and beyond.
func highCounts() []countCase {
	const fours = "4 1;S=A;A=B;B=C;C=aS;C="
	const foursAndOne = "5 1;S=A;A=B;B=C;C=D;D=aA;D=a"
	return []countCase{
		{fours, "a", 1, "8:1", 8},
		{fours, "aaaa", 1, "20:1", 20},
		{fours, "aaaaa", 1, "", 24},
		{fours, "aaaaaaaaa", 1, "", 40},
		{fours, "aaaaaaaaaa", 1, "", 0},
		{foursAndOne, "aaaaa", 1, "", 21},
		{foursAndOne, "aaaaaaaaa", 1, "", 37},
		{foursAndOne, "aaaaaaaaaa", 1, "", 0},
		{"4 1;S=AAA;A=BBB;B=CCC;C=", "", 1, "", 40},
		{"5 1;S=A;A=BBB;B=CCC;C=DDD;D=", "", 1, "", 0},
		{"5 1;S=A;S=BBB;A=BBB;B=CCC;C=DDD;D=", "", 2, "", 40},
		{"5 1;S=A;A=S;A=BBB;B=CCC;C=DDD;D=", "", endless, "", 0},
		{"4 1;S=S;S=AAA;A=BBB;B=CCC;C=", "", endless, "", 40},
		{"5 1;S=DDDD;S=A;A=B;B=C;C=a;D=;D=a", "a", 5, "4:1 5:4", 4},
		{"5 1;S=A;S=DDDD;A=B;B=C;C=a;D=;D=a", "a", 5, "4:1 5:4", 4},
		{"6 1;S=DDDD;S=A;A=B;B=C;C=E;E=a;D=;D=a", "a", 5, "5:5", 5},
	}
}

// wantTrees is for a number of trees, or for what stands for it.
func wantTrees(t *testing.T, name string, g impl.Grammar, w []int, want int) {
	t.Helper()
	code, number := impl.CtSome, want
	switch want {
	case endless:
		code, number = impl.CtEndless, 0
	case beyond:
		code, number = impl.CtMost, 0
	case untold:
		code, number = 0, 0
	}
	got, gotCode, ok := impl.CountTrees(g, w)
	if got != number || gotCode != code || ok != (want != untold) {
		t.Errorf("%s: got %v, %v, %v; want %v, %v, %v", name, got, gotCode, ok, number, code, want != untold)
	}
	is, ok := impl.IsAmbiguous(g, w)
	if ok != (want != untold) || is != isSeveral(want) {
		t.Errorf("%s: ambiguous %v, %v", name, is, ok)
	}
}

func isSeveral(trees int) bool { return trees > 1 || trees == endless || trees == beyond }

// wantSizes asks for all sizes up to 20, and up to each smaller one.
func wantSizes(t *testing.T, name string, g impl.Grammar, w, want []int) {
	t.Helper()
	for most := range 21 {
		sizes, ok := impl.CountSized(g, w, most)
		wantList(t, name+", "+numberText(most), sizes, ok, want[:most+1]...)
	}
}

func wantLeastSize(t *testing.T, name string, g impl.Grammar, w []int, want int) {
	t.Helper()
	least, ok := impl.LeastSize(g, w)
	if want == 0 {
		wantNoNumber(t, name, least, ok)
	} else {
		wantSize(t, name, least, ok, want)
	}
}

func wantNoTrees(t *testing.T, name string, g impl.Grammar, w []int) {
	t.Helper()
	wantTrees(t, name, g, w, untold)
	wantLeastSize(t, name, g, w, 0)
	for _, most := range []int{-1, 0, 1, 20, 21} {
		sizes, ok := impl.CountSized(g, w, most)
		wantNoList(t, name, sizes, ok)
	}
}

// treesOfNode counts along the arrows, which must not go round.
func treesOfNode(arrows lists, node int, known map[int]*big.Int) *big.Int {
	if known[node] != nil {
		return known[node]
	}
	sum := new(big.Int)
	for _, arrow := range arrows {
		if arrow[0] == node {
			product := big.NewInt(1)
			for _, child := range arrow[1:] {
				product.Mul(product, treesOfNode(arrows, child, known))
			}
			sum.Add(sum, product)
		}
	}
	known[node] = sum
	return sum
}

// wantedTrees reads the number off the tests' own forest.
func wantedTrees(g impl.Grammar, w []int) int {
	f := wholeForest(g, w)
	arrows := arrowsOf(g, f)
	switch {
	case len(f.Edges) > 600:
		return untold
	case len(f.Nodes) == 0:
		return 0
	case wayBack(len(f.Nodes), arrows):
		return endless
	}
	root := slices.Index(f.Nodes, impl.Node{To: len(w)})
	trees := treesOfNode(arrows, root, map[int]*big.Int{})
	if trees.Cmp(big.NewInt(mostTrees)) > 0 {
		return beyond
	}
	return int(trees.Int64())
}

// wantedSizes counts size by size, from the children, how many trees the nodes
// of the tests' own forest have.
func wantedSizes(g impl.Grammar, w []int, most int) []int {
	f := wholeForest(g, w)
	arrows := arrowsOf(g, f)
	sized := make(lists, len(f.Nodes))
	for node := range sized {
		sized[node] = make([]int, most+1)
	}
	for size := 1; size <= most; size++ {
		for _, arrow := range arrows {
			ways := waysBeside(sized, arrow[1:], size-1)
			sized[arrow[0]][size] = min(sized[arrow[0]][size]+ways, mostTrees)
		}
	}
	if len(f.Nodes) == 0 {
		return make([]int, most+1)
	}
	return sized[slices.Index(f.Nodes, impl.Node{To: len(w)})]
}

// waysBeside is how many ways there are to take a tree of each child, all sizes
// together being as said.
func waysBeside(sized lists, children []int, size int) int {
	if len(children) == 0 {
		return map[bool]int{true: 1}[size == 0]
	}
	ways := 0
	for first := 1; first <= size; first++ {
		if count := sized[children[0]][first]; count > 0 {
			ways = min(ways+count*waysBeside(sized, children[1:], size-first), mostTrees)
		}
	}
	return ways
}

func firstSize(sizes []int) int {
	return max(slices.IndexFunc(sizes, func(count int) bool { return count > 0 }), 0)
}
