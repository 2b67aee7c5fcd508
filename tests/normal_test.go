package tests

import (
	"slices"
	"testing"

	"loop.example/g00758/impl"
)

func TestMaxPartsIsTheDocuments(t *testing.T) {
	if impl.MaxParts != 40 {
		t.Error("MaxParts", impl.MaxParts)
	}
}

// binaryCase is a grammar, its binary one and that one's size, written by hand.
type binaryCase struct {
	text string
	want impl.Binary
	size int
}

func binaryCases() []binaryCase {
	return append(shortRightCases(), helperCases()...)
}

// shortRightCases need no helpers.
func shortRightCases() []binaryCase {
	return []binaryCase{
		{"1 1", impl.Binary{Nons: 1, Toks: 1}, 0},
		{"6 4", impl.Binary{Nons: 6, Toks: 4}, 0},
		{"1 1;S=", impl.Binary{Nons: 1, Toks: 1, Empty: []int{0}}, 1},
		{"1 1;S=a", impl.Binary{Nons: 1, Toks: 1, Ones: lists{{0, -1}}}, 2},
		{"1 1;S=S", impl.Binary{Nons: 1, Toks: 1, Ones: lists{{0, 0}}}, 2},
		{"6 4;E=d", impl.Binary{Nons: 6, Toks: 4, Ones: lists{{5, -4}}}, 2},
		{"1 1;S=aS", impl.Binary{Nons: 1, Toks: 1, Pairs: lists{{0, -1, 0}}}, 3},
		{"2 2;S=bA", impl.Binary{Nons: 2, Toks: 2, Pairs: lists{{0, -2, 1}}}, 3},
		{"1 1;S=SS;S=a", impl.Binary{Nons: 1, Toks: 1, Pairs: lists{{0, 0, 0}}, Ones: lists{{0, -1}}}, 5},
		{"4 1;C=;A=;S=;B=", impl.Binary{Nons: 4, Toks: 1, Empty: []int{0, 1, 2, 3}}, 4},
		{"3 2;B=a;A=B;A=S;S=a;S=b;A=b;S=B", impl.Binary{Nons: 3, Toks: 2,
			Ones: lists{{0, -2}, {0, -1}, {0, 2}, {1, -2}, {1, 0}, {1, 2}, {2, -1}}}, 14},
		{"3 2;B=Sa;A=bB;A=BS;S=Aa;S=ab;S=aB;A=BA;S=Ab;A=aa", impl.Binary{Nons: 3, Toks: 2,
			Pairs: lists{{0, -1, -2}, {0, -1, 2}, {0, 1, -2}, {0, 1, -1}, {1, -2, 2}, {1, -1, -1}, {1, 2, 0}, {1, 2, 1}, {2, 0, -1}}}, 27},
		{"2 2;A=;A=SS;S=A;A=b;S=;S=Ab", impl.Binary{Nons: 2, Toks: 2,
			Pairs: lists{{0, 1, -2}, {1, 0, 0}}, Ones: lists{{0, 1}, {1, -2}}, Empty: []int{0, 1}}, 12},
	}
}

// helperCases have Rights of three and four symbols.
func helperCases() []binaryCase {
	return []binaryCase{
		{"1 2;S=aSb;S=", impl.Binary{Nons: 2, Toks: 2,
			Pairs: lists{{0, -1, 1}, {1, 0, -2}}, Empty: []int{0}, From: lists{{0, 1}}}, 7},
		{"1 2;S=;S=aSb", impl.Binary{Nons: 2, Toks: 2,
			Pairs: lists{{0, -1, 1}, {1, 0, -2}}, Empty: []int{0}, From: lists{{1, 1}}}, 7},
		{"1 4;S=abcd", impl.Binary{Nons: 3, Toks: 4,
			Pairs: lists{{0, -1, 1}, {1, -2, 2}, {2, -3, -4}}, From: lists{{0, 1}, {0, 2}}}, 9},
		{"3 1;B=aSA", impl.Binary{Nons: 4, Toks: 1, Pairs: lists{{2, -1, 3}, {3, 0, 1}}, From: lists{{0, 1}}}, 6},
		{"6 1;E=EDCB", impl.Binary{Nons: 8, Toks: 1,
			Pairs: lists{{5, 5, 6}, {6, 4, 7}, {7, 3, 2}}, From: lists{{0, 1}, {0, 2}}}, 9},
		{"1 1;S=SSSS;S=aaaa", impl.Binary{Nons: 5, Toks: 1,
			Pairs: lists{{0, -1, 3}, {0, 0, 1}, {1, 0, 2}, {2, 0, 0}, {3, -1, 4}, {4, -1, -1}},
			From:  lists{{0, 1}, {0, 2}, {1, 1}, {1, 2}}}, 18},
		// The same Right twice has helpers twice.
		{"2 1;S=aaa;A=aaa", impl.Binary{Nons: 4, Toks: 1,
			Pairs: lists{{0, -1, 2}, {1, -1, 3}, {2, -1, -1}, {3, -1, -1}}, From: lists{{0, 1}, {1, 1}}}, 12},
		{"2 2;A=;A=Sab;A=b;S=AAAA;S=A;S=Ab;A=bSb", impl.Binary{Nons: 6, Toks: 2,
			Pairs: lists{{0, 1, -2}, {0, 1, 3}, {1, -2, 5}, {1, 0, 2}, {2, -1, -2}, {3, 1, 4}, {4, 1, 1}, {5, 0, -2}},
			Ones:  lists{{0, 1}, {1, -2}}, Empty: []int{1},
			From: lists{{1, 1}, {3, 1}, {3, 2}, {6, 1}}}, 29},
		{"3 3;S=SaA;S=A;A=AbB;A=B;B=c", impl.Binary{Nons: 5, Toks: 3,
			Pairs: lists{{0, 0, 3}, {1, 1, 4}, {3, -1, 1}, {4, -2, 2}},
			Ones:  lists{{0, 1}, {1, 2}, {2, -3}}, From: lists{{0, 1}, {2, 1}}}, 18},
	}
}

func TestBinaryOf(t *testing.T) {
	for _, c := range binaryCases() {
		b, ok := impl.BinaryOf(grammarOf(c.text))
		wantBinary(t, c.text, b, ok, c.want)
		if !impl.GoodBinary(b) {
			t.Error(c.text, "not good", b)
		}
	}
}

// mostHelpers has 16 rules of four symbols, and as many nonterminals as can be.
func mostHelpers() impl.Grammar {
	g := grammar(6, 4)
	for i := range 16 {
		g.Rules = append(g.Rules, rule(5-i%6, i%6, token(i%4), token(i/4), i/3))
	}
	return g
}

func TestBinaryOfSixteenRulesOfFourSymbols(t *testing.T) {
	g := mostHelpers()
	want := impl.Binary{Nons: 38, Toks: 4}
	for i, r := range g.Rules {
		first := 6 + 2*i
		want.Pairs = append(want.Pairs, []int{r.Left, r.Right[0], first})
		want.From = append(want.From, []int{i, 1}, []int{i, 2})
	}
	slices.SortFunc(want.Pairs, slices.Compare[[]int])
	for i, r := range g.Rules {
		first := 6 + 2*i
		want.Pairs = append(want.Pairs, []int{first, r.Right[1], first + 1}, []int{first + 1, r.Right[2], r.Right[3]})
	}
	b, ok := impl.BinaryOf(g)
	wantBinary(t, "16 rules", b, ok, want)
	if !impl.GoodBinary(b) || len(b.Pairs) != 48 || len(b.From) != 32 {
		t.Error("16 rules", b)
	}
	size, ok := impl.BinarySize(b)
	wantSize(t, "16 rules", size, ok, 144)
	x, ok := impl.BinaryGrammar(b)
	wantNoGrammar(t, "16 rules", x, ok)
}

// Without helpers the order of the rules does not show.
func TestBinaryOfRulesInAnotherOrder(t *testing.T) {
	g := grammarOf("3 2;S=;A=;B=;S=a;S=b;S=A;A=a;A=S;B=B;S=aa;S=ab;S=SB;A=bA;A=Ab;B=SS;B=AA")
	want, ok := impl.BinaryOf(g)
	if !ok || len(want.Pairs) != 7 || len(want.Ones) != 6 || len(want.Empty) != 3 {
		t.Fatal(want, ok)
	}
	p := picker{3}
	for range 200 {
		i, j := p.pick(16), p.pick(16)
		g.Rules[i], g.Rules[j] = g.Rules[j], g.Rules[i]
		b, ok := impl.BinaryOf(g)
		wantBinary(t, "another order", b, ok, want)
	}
}

// wantedBinary puts each list in at its place, by what the document says of each place.
func wantedBinary(g impl.Grammar) impl.Binary {
	b := impl.Binary{Nons: g.Nons, Toks: g.Toks}
	put := func(table *lists, list ...int) {
		at, _ := slices.BinarySearchFunc(*table, list, slices.Compare[[]int])
		*table = slices.Insert(*table, at, list)
	}
	for i, r := range g.Rules {
		m, x := len(r.Right), r.Right
		helperAt := func(place int) int { return b.Nons + place - 1 }
		switch {
		case m == 0:
			at, _ := slices.BinarySearch(b.Empty, r.Left)
			b.Empty = slices.Insert(b.Empty, at, r.Left)
		case m == 1:
			put(&b.Ones, r.Left, x[0])
		case m == 2:
			put(&b.Pairs, r.Left, x[0], x[1])
		default:
			put(&b.Pairs, r.Left, x[0], helperAt(1))
			for place := 1; place < m-2; place++ {
				put(&b.Pairs, helperAt(place), x[place], helperAt(place+1))
			}
			put(&b.Pairs, helperAt(m-2), x[m-2], x[m-1])
			for place := 1; place <= m-2; place++ {
				b.From = append(b.From, []int{i, place})
			}
			b.Nons += m - 2
		}
	}
	return b
}

func normalGrammars() []impl.Grammar {
	all := append(smallGrammars(), someGrammars(800)...)
	all = append(all, pickedGrammars(600, 6, 17, 5)...)
	for _, g := range goodGrammars() {
		all = append(all, g)
	}
	for _, c := range append(deriveCases(), sequenceCases()...) {
		all = append(all, grammarOf(c.text))
	}
	for _, c := range propsCases() {
		all = append(all, c.grammar())
	}
	for _, c := range binaryCases() {
		all = append(all, grammarOf(c.text))
	}
	return append(append(all, wideGrammars()...), mostHelpers())
}

func TestBinaryOfPlaceByPlace(t *testing.T) {
	for _, g := range normalGrammars() {
		b, ok := impl.BinaryOf(g)
		if want := wantedBinary(g); !ok || !sameBinary(b, want) {
			t.Fatalf("%v: got %+v, %v; want %+v", g, b, ok, want)
		}
		if !impl.GoodBinary(b) {
			t.Fatal("not good:", b)
		}
	}
}

func TestGoodBinary(t *testing.T) {
	for name, b := range goodBinaries() {
		if !impl.GoodBinary(b) {
			t.Error(name, "is good")
		}
	}
	for name, b := range badBinaries() {
		if impl.GoodBinary(b) {
			t.Error(name, "is not good")
		}
	}
	if b := fullBinary(40, 4); len(b.Pairs) != 77440 || len(b.Ones) != 1760 || !impl.GoodBinary(b) {
		t.Error("full, all at most")
	}
}

func TestGoodBinaryAtEachCount(t *testing.T) {
	for nons := -2; nons <= 45; nons++ {
		for toks := -2; toks <= 8; toks++ {
			want := 1 <= nons && nons <= 40 && 1 <= toks && toks <= 4
			if got := impl.GoodBinary(impl.Binary{Nons: nons, Toks: toks}); got != want {
				t.Error(nons, toks, got)
			}
			for count := range 43 {
				if got := impl.GoodBinary(impl.Binary{Nons: nons, Toks: toks, From: manyPlaces(count)}); got != (want && count <= nons) {
					t.Error(nons, toks, "From", count, got)
				}
			}
		}
	}
}

// Each symbol alone, at each place where one can stand.
func TestGoodBinaryAtEachSymbol(t *testing.T) {
	for _, counts := range [][2]int{{1, 1}, {6, 2}, {7, 4}, {39, 3}, {40, 4}} {
		nons, toks := counts[0], counts[1]
		for x := -50; x <= 50; x++ {
			isNon := 0 <= x && x < nons
			isSymbol := isNon || -toks <= x && x < 0
			for _, c := range []struct {
				b    impl.Binary
				want bool
			}{
				{impl.Binary{Pairs: lists{{x, 0, 0}}}, isNon},
				{impl.Binary{Pairs: lists{{0, x, 0}}}, isSymbol},
				{impl.Binary{Pairs: lists{{0, 0, x}}}, isSymbol},
				{impl.Binary{Ones: lists{{x, 0}}}, isNon},
				{impl.Binary{Ones: lists{{0, x}}}, isSymbol},
				{impl.Binary{Empty: []int{x}}, isNon},
				{impl.Binary{From: lists{{x, x}}}, true},
			} {
				c.b.Nons, c.b.Toks = nons, toks
				if got := impl.GoodBinary(c.b); got != c.want {
					t.Error(c.b, got)
				}
			}
		}
	}
}

// Each two lists beside each other: they are good in one order alone.
func TestGoodBinaryOfEachTwoLists(t *testing.T) {
	pairs, ones := fullLists(2, 2, 2), fullLists(2, 2, 1)
	for i, a := range pairs {
		for j, b := range pairs {
			if got := impl.GoodBinary(impl.Binary{Nons: 2, Toks: 2, Pairs: lists{a, b}}); got != (i < j) {
				t.Error(a, b, got)
			}
		}
	}
	for i, a := range ones {
		for j, b := range ones {
			if got := impl.GoodBinary(impl.Binary{Nons: 2, Toks: 2, Ones: lists{a, b}}); got != (i < j) {
				t.Error(a, b, got)
			}
		}
	}
	for a := range 40 {
		for b := range 40 {
			if got := impl.GoodBinary(impl.Binary{Nons: 40, Toks: 1, Empty: []int{a, b}}); got != (a < b) {
				t.Error(a, b, got)
			}
		}
	}
}

// Pairs, Ones and Empty are apart: what is in one may be in another.
func TestGoodBinaryHoldsNoTwoKindsAgainstEachOther(t *testing.T) {
	b := impl.Binary{Nons: 2, Toks: 1, Pairs: lists{{1, 0, 0}}, Ones: lists{{0, 0}, {1, 0}}, Empty: []int{0, 1}}
	if !impl.GoodBinary(b) {
		t.Error(b)
	}
}

func TestBinarySize(t *testing.T) {
	for _, c := range binaryCases() {
		size, ok := impl.BinarySize(c.want)
		wantSize(t, c.text, size, ok, c.size)
	}
	for name, want := range map[string]int{
		"nothing": 0, "empty lists": 0, "one pair": 3, "one of Ones": 2, "one of Empty": 1, "mixed": 30,
		"full, one": 17, "full, small": 75*3 + 15*2 + 3, "full, six": 600*3 + 60*2 + 6, "From as 40 Nons": 0,
	} {
		size, ok := impl.BinarySize(goodBinaries()[name])
		wantSize(t, name, size, ok, want)
	}
	full := fullBinary(6, 4)
	for n := range 7 {
		size, ok := impl.BinarySize(impl.Binary{Nons: 6, Toks: 4, Pairs: full.Pairs[:n]})
		wantSize(t, "Pairs alone", size, ok, 3*n)
		size, ok = impl.BinarySize(impl.Binary{Nons: 6, Toks: 4, Ones: full.Ones[:n]})
		wantSize(t, "Ones alone", size, ok, 2*n)
		size, ok = impl.BinarySize(impl.Binary{Nons: 6, Toks: 4, Empty: full.Empty[:n]})
		wantSize(t, "Empty alone", size, ok, n)
	}
}

func TestHelperSays(t *testing.T) {
	for _, c := range []struct {
		text string
		want []string
	}{
		{"1 1", []string{"S"}},
		{"6 4", []string{"S", "A", "B", "C", "D", "E"}},
		{"1 2;S=ab;S=a;S=", []string{"S"}},
		{"1 2;S=aSb;S=", []string{"S", "Sb"}},
		{"1 4;S=abcd", []string{"S", "bcd", "cd"}},
		{"2 1;S=aaa;A=aaa", []string{"S", "A", "aa", "aa"}},
		{"2 2;A=;A=Sab;A=b;S=AAAA;S=A;S=Ab;A=bSb", []string{"S", "A", "ab", "AAA", "AA", "Sb"}},
		{"6 4;E=EDCB;S=;A=dcba;B=abc", []string{"S", "A", "B", "C", "D", "E", "DCB", "CB", "cba", "ba", "bc"}},
	} {
		g := grammarOf(c.text)
		for non, want := range c.want {
			says, ok := impl.HelperSays(g, non)
			wantList(t, c.text+" "+numberText(non), says, ok, symbolsOf(want)...)
		}
		for _, non := range append(oddInts(), -1, -2, len(c.want), len(c.want)+1, 39, 40) {
			says, ok := impl.HelperSays(g, non)
			wantNoList(t, c.text+" "+numberText(non), says, ok)
		}
	}
}

func TestHelperSaysAsFromTells(t *testing.T) {
	for _, g := range normalGrammars() {
		b := wantedBinary(g)
		for non := -5; non < 45; non++ {
			says, ok := impl.HelperSays(g, non)
			switch {
			case non < 0 || non >= b.Nons:
				wantNoList(t, "no nonterminal", says, ok)
			case non < g.Nons:
				wantList(t, "nonterminal", says, ok, non)
			default:
				from := b.From[non-g.Nons]
				wantList(t, "helper", says, ok, g.Rules[from[0]].Right[from[1]:]...)
			}
		}
	}
}

func TestBinaryNull(t *testing.T) {
	for _, c := range []struct {
		name string
		b    impl.Binary
		want []int
	}{
		{"nothing", impl.Binary{}, nil},
		{"in Empty", impl.Binary{Empty: []int{2}}, []int{2}},
		{"several in Empty", impl.Binary{Empty: []int{0, 1, 3}}, []int{0, 1, 3}},
		{"by Ones", impl.Binary{Ones: lists{{0, 3}}, Empty: []int{3}}, []int{0, 3}},
		{"by Ones, not of it", impl.Binary{Ones: lists{{3, 0}}, Empty: []int{3}}, []int{3}},
		{"by Pairs", impl.Binary{Pairs: lists{{0, 3, 3}}, Empty: []int{3}}, []int{0, 3}},
		{"by Pairs of two", impl.Binary{Pairs: lists{{0, 2, 3}}, Empty: []int{2, 3}}, []int{0, 2, 3}},
		{"first of a pair alone", impl.Binary{Pairs: lists{{0, 3, 2}}, Empty: []int{3}}, []int{3}},
		{"second of a pair alone", impl.Binary{Pairs: lists{{0, 2, 3}}, Empty: []int{3}}, []int{3}},
		{"token ahead", impl.Binary{Pairs: lists{{0, -1, 3}}, Empty: []int{3}}, []int{3}},
		{"token behind", impl.Binary{Pairs: lists{{0, 3, -1}}, Empty: []int{3}}, []int{3}},
		{"last token behind", impl.Binary{Pairs: lists{{0, 3, -4}}, Empty: []int{3}}, []int{3}},
		{"two tokens", impl.Binary{Pairs: lists{{0, -1, -1}}}, nil},
		{"a token alone", impl.Binary{Ones: lists{{0, -1}, {1, -4}}, Empty: []int{2}}, []int{2}},
		{"a token or another", impl.Binary{Ones: lists{{0, -1}, {0, 2}}, Empty: []int{2}}, []int{0, 2}},
		{"several steps", impl.Binary{Pairs: lists{{0, 1, 2}, {2, 3, 4}}, Ones: lists{{1, 2}, {3, 5}, {4, 3}}, Empty: []int{5}}, []int{0, 1, 2, 3, 4, 5}},
		{"several steps up", impl.Binary{Pairs: lists{{5, 4, 3}}, Ones: lists{{1, 0}, {2, 1}, {3, 2}, {4, 3}}, Empty: []int{0}}, []int{0, 1, 2, 3, 4, 5}},
		{"itself", impl.Binary{Ones: lists{{0, 0}}}, nil},
		{"itself twice", impl.Binary{Pairs: lists{{0, 0, 0}}}, nil},
		{"itself beside Empty", impl.Binary{Pairs: lists{{0, 0, 1}, {0, 1, 0}}, Empty: []int{1}}, []int{1}},
		{"each other", impl.Binary{Ones: lists{{0, 1}, {1, 0}}}, nil},
		{"each other, by three", impl.Binary{Ones: lists{{0, 1}, {1, 2}, {2, 0}}, Empty: []int{4}}, []int{4}},
		{"each other, and a way out", impl.Binary{Ones: lists{{0, 1}, {1, 2}, {2, 0}, {2, 5}}, Empty: []int{5}}, []int{0, 1, 2, 5}},
		{"each other, by Pairs", impl.Binary{Pairs: lists{{0, 1, 5}, {1, 5, 0}}, Empty: []int{5}}, []int{5}},
		{"each other, by Pairs, and a way out", impl.Binary{Pairs: lists{{0, 1, 5}, {1, 5, 0}}, Empty: []int{1, 5}}, []int{0, 1, 5}},
	} {
		c.b.Nons, c.b.Toks = 6, 4
		null, ok := impl.BinaryNull(c.b)
		wantList(t, c.name, null, ok, c.want...)
	}
}

// A chain of all nonterminals there can be, each of them known by the one ahead or behind.
func TestBinaryNullOfLongChains(t *testing.T) {
	for _, by := range []func(b *impl.Binary, non, next int){
		func(b *impl.Binary, non, next int) { b.Ones = append(b.Ones, []int{non, next}) },
		func(b *impl.Binary, non, next int) { b.Pairs = append(b.Pairs, []int{non, next, next}) },
	} {
		down, up := impl.Binary{Nons: 40, Toks: 1}, impl.Binary{Nons: 40, Toks: 1}
		for non := range 39 {
			by(&down, non, non+1)
			by(&up, non+1, non)
		}
		null, ok := impl.BinaryNull(down)
		wantList(t, "chain down, nothing empty", null, ok)
		null, ok = impl.BinaryNull(up)
		wantList(t, "chain up, nothing empty", null, ok)
		for x := range 40 {
			down.Empty, up.Empty = []int{x}, []int{x}
			null, ok = impl.BinaryNull(down)
			wantList(t, "chain down", null, ok, upTo(x+1)...)
			null, ok = impl.BinaryNull(up)
			wantList(t, "chain up", null, ok, upTo(40)[x:]...)
		}
	}
}

// The greatest binary grammar there is.
func TestBinaryNullOfAllThereIs(t *testing.T) {
	b := fullBinary(40, 4)
	b.Empty = nil
	null, ok := impl.BinaryNull(b)
	wantList(t, "no Empty", null, ok)
	b.Empty = []int{17}
	null, ok = impl.BinaryNull(b)
	wantList(t, "one of Empty", null, ok, upTo(40)...)
	size, ok := impl.BinarySize(b)
	wantSize(t, "all there is", size, ok, 3*77440+2*1760+1)
	g, ok := impl.BinaryGrammar(b)
	wantNoGrammar(t, "all there is", g, ok)
}

func TestBinaryGrammar(t *testing.T) {
	for _, c := range []struct {
		name string
		b    impl.Binary
		want impl.Grammar
	}{
		{"nothing", impl.Binary{Nons: 1, Toks: 1}, grammarOf("1 1")},
		{"nothing, most symbols", impl.Binary{Nons: 6, Toks: 4}, grammarOf("6 4")},
		{"a pair", impl.Binary{Nons: 1, Toks: 2, Pairs: lists{{0, -2, 0}}}, grammarOf("1 2;S=bS")},
		{"one of Ones", impl.Binary{Nons: 2, Toks: 2, Ones: lists{{1, -2}}}, grammarOf("2 2;A=b")},
		{"one of Empty", impl.Binary{Nons: 3, Toks: 2, Empty: []int{2}}, grammarOf("3 2;B=")},
		{"From is not told", impl.Binary{Nons: 2, Toks: 1, From: lists{{7, 7}, {-9, 9}}}, grammarOf("2 1")},
		{"of the pairs", goodBinaries()["of the pairs"], grammarOf("2 2;S=aA;A=Sb;S=")},
		{"mixed", mixedBinary(), grammarOf("4 2;S=bC;S=aA;S=aB;S=Ab;A=SS;C=CC;S=b;S=a;S=C;B=b;C=S;A=;C=")},
	} {
		g, ok := impl.BinaryGrammar(c.b)
		wantGrammar(t, c.name, g, ok, c.want)
	}
}

// All numbers of Nons, and of rules of each kind, up to beyond what is good.
func TestBinaryGrammarHoldsTheLimits(t *testing.T) {
	for nons := 1; nons <= 40; nons++ {
		b := impl.Binary{Nons: nons, Toks: 4, Pairs: lists{{0, -4, 0}}, Ones: lists{{0, -1}}, Empty: []int{0}}
		g, ok := impl.BinaryGrammar(b)
		if nons <= 6 {
			wantGrammar(t, "Nons "+numberText(nons), g, ok, plainRules(b))
		} else {
			wantNoGrammar(t, "Nons "+numberText(nons), g, ok)
		}
	}
	full := fullBinary(6, 4)
	for pairs := 0; pairs <= 17; pairs++ {
		for ones := 0; ones <= 17; ones++ {
			for empty := 0; empty <= 6; empty++ {
				b := impl.Binary{Nons: 6, Toks: 4, Pairs: full.Pairs[:pairs], Ones: full.Ones[:ones], Empty: full.Empty[:empty]}
				g, ok := impl.BinaryGrammar(b)
				if pairs+ones+empty <= 16 {
					wantGrammar(t, "rules", g, ok, plainRules(b))
				} else {
					wantNoGrammar(t, "too many rules", g, ok)
				}
			}
		}
	}
}

func TestNormalOfGrammarsThatAreNotGood(t *testing.T) {
	for name, g := range badGrammars() {
		b, ok := impl.BinaryOf(g)
		wantNoBinary(t, name, b, ok)
		for _, non := range []int{-1, 0, 1, 5, 6, 37} {
			says, ok := impl.HelperSays(g, non)
			wantNoList(t, name, says, ok)
		}
	}
}

func TestNormalOfBinariesThatAreNotGood(t *testing.T) {
	for name, b := range badBinaries() {
		size, ok := impl.BinarySize(b)
		if size != 0 || ok {
			t.Error(name, "BinarySize", size, ok)
		}
		null, ok := impl.BinaryNull(b)
		wantNoList(t, name+" BinaryNull", null, ok)
		g, ok := impl.BinaryGrammar(b)
		wantNoGrammar(t, name+" BinaryGrammar", g, ok)
	}
}
