package tests

import (
	"slices"
	"strings"
	"testing"

	"loop.example/g00758/impl"
)

// unitCase is a grammar and what chapter 6 tells of its binary one, by letters
// and written by hand: UnitPairs with a blank between, UnitRows with a comma
// between, that of the last token first, and HasUnitRound.
type unitCase struct {
	text, pairs, rows string
	round             bool
}

func (c unitCase) binary() impl.Binary { return wantedBinary(grammarOf(c.text)) }

func (c unitCase) unitPairs() lists {
	var out lists
	for _, pair := range strings.Fields(c.pairs) {
		out = append(out, symbolsOf(pair))
	}
	return out
}

func (c unitCase) unitRows() lists {
	var out lists
	for _, letters := range strings.Split(c.rows, ",") {
		out = append(out, nonsOf(letters))
	}
	return out
}

func unitCases() []unitCase {
	cases := append(oneCases(), nextToEmptyCases()...)
	cases = append(cases, severalWaysCases()...)
	return append(cases, unitRoundCases()...)
}

// oneCases have units by Ones alone.
func oneCases() []unitCase {
	return []unitCase{
		{"1 1", "", ",S", false},
		{"1 1;S=", "", ",S", false},
		{"6 4", "", ",,,,S,A,B,C,D,E", false},
		{"1 1;S=a", "Sa", "S,S", false},
		{"1 2;S=b", "Sb", "S,,S", false},
		{"6 4;E=d", "Ed", "E,,,,S,A,B,C,D,E", false},
		{"2 2;S=A", "SA", ",,S,SA", false},
		{"2 1;S=A;A=", "SA", ",S,SA", false},
		{"2 2;S=A;A=b", "SA Ab", "SA,,S,SA", false},
		{"2 4;S=a;S=b;A=c;A=d;A=a;A=S", "Sb Sa Ad Ac Aa AS", "A,A,SA,SA,SA,A", false},
		{"6 1;S=A;A=B;B=C;C=D;D=E;E=a", "SA AB BC CD DE Ea", "SABCDE,S,SA,SAB,SABC,SABCD,SABCDE", false},
		{"6 1;E=D;D=C;C=B;B=A;A=S;S=a", "Sa AS BA CB DC ED", "SABCDE,SABCDE,ABCDE,BCDE,CDE,DE,E", false},
		{"4 1;S=A;S=B;A=C;B=C;C=a", "SA SB AC BC Ca", "SABC,S,SA,SB,SABC", false},
		{"4 1;C=S;C=A;B=C;A=a;S=a", "Sa Aa BC CS CA", "SABC,SBC,ABC,B,BC", false},
		{"6 2;S=A;B=C;D=E;A=a;E=b", "SA Aa BC DE Eb", "DE,SA,S,SA,B,BC,D,DE", false},
	}
}

// nextToEmptyCases have units by Pairs.
func nextToEmptyCases() []unitCase {
	return []unitCase{
		{"3 1;S=AB", "", ",S,A,B", false},
		{"3 1;S=AB;A=a;B=a", "Aa Ba", "AB,S,A,B", false},
		{"3 1;S=AB;A=", "SB", ",S,A,SB", false},
		{"3 1;S=AB;B=", "SA", ",S,SA,B", false},
		{"3 1;S=AB;A=;B=", "SA SB", ",S,SA,SB", false},
		{"3 1;S=AB;S=", "", ",S,A,B", false},
		{"2 2;S=bA;A=", "Sb", "S,,S,A", false},
		{"2 2;S=Aa;A=", "Sa", ",S,S,A", false},
		{"2 2;S=bA", "", ",,S,A", false},
		{"2 2;S=Aa", "", ",,S,A", false},
		{"1 2;S=ab", "", ",,S", false},
		{"1 2;S=ab;S=", "", ",,S", false},
		{"3 2;S=Ab;A=Ba;B=", "Aa", ",A,S,A,B", false},
		{"3 1;S=A;A=BB;B=a", "SA Ba", "B,S,SA,B", false},
		{"4 1;S=AB;A=BC;B=C;C=", "SA SB AB AC BC", ",S,SA,SAB,SABC", false},
		{"4 1;C=BA;B=AS;A=S;S=", "AS BS BA CA CB", ",SABC,ABC,BC,C", false},
		{"4 2;S=AB;A=Ca;B=;C=", "SA Aa", ",SA,S,SA,B,C", false},
		// With helpers, whose letters come behind those of the others.
		{"1 2;S=aSb;S=", "Ab", "A,,S,A", false},
		{"3 2;S=AbB;A=;B=", "SC Cb", "SC,,S,A,B,SC", false},
		{"3 2;S=AbB;A=", "SC", ",,S,A,B,SC", false},
		{"2 1;S=AAAA;A=;A=a", "SA SB Aa BA BC CA", "SABC,S,SABC,SB,SBC", false},
	}
}

// severalWaysCases have a pair that comes of more than one thing.
func severalWaysCases() []unitCase {
	return []unitCase{
		{"2 1;S=AA;A=", "SA", ",S,SA", false},
		{"2 1;S=A;S=AA;A=", "SA", ",S,SA", false},
		{"3 1;S=AB;S=BA;B=", "SA", ",S,SA,B", false},
		{"3 1;S=A;S=AB;S=BA;B=", "SA", ",S,SA,B", false},
		{"2 1;S=a;S=aA;S=Aa;A=", "Sa", "S,S,A", false},
		{"3 1;S=aA;S=Ba;A=;B=", "Sa", "S,S,A,B", false},
	}
}

func unitRoundCases() []unitCase {
	return []unitCase{
		{"1 1;S=S", "SS", ",S", true},
		{"6 1;E=E", "EE", ",S,A,B,C,D,E", true},
		{"2 1;S=SA;A=;S=a", "Sa SS", "S,S,A", true},
		{"2 1;S=AS;A=", "SS", ",S,A", true},
		{"2 1;S=AS;A=a", "Aa", "A,S,A", false},
		{"1 1;S=SS;S=", "SS", ",S", true},
		{"1 1;S=SS;S=a", "Sa", "S,S", false},
		{"1 1;S=aS;S=", "Sa", "S,S", false},
		{"2 1;S=A;A=S;A=a", "SA Aa AS", "SA,SA,SA", true},
		{"4 2;S=A;A=B;B=S;B=b;C=S", "SA AB Bb BS CS", "SABC,,SABC,SABC,SABC,C", true},
		{"4 1;S=A;A=B;B=A;C=B", "SA AB BA CB", ",S,SABC,SABC,C", true},
		{"6 1;S=A;A=B;B=C;C=D;D=E;E=S", "SA AB BC CD DE ES", ",SABCDE,SABCDE,SABCDE,SABCDE,SABCDE,SABCDE", true},
		{"3 1;S=AB;A=S;B=", "SA AS", ",SA,SA,B", true},
		{"3 1;S=BA;A=S;B=", "SA AS", ",SA,SA,B", true},
		{"3 1;S=AB;A=S;B=a", "AS Ba", "B,SA,A,B", false},
		{"3 1;S=AB;A=SB;B=", "SA AS", ",SA,SA,B", true},
		{"3 1;S=A;A=Ba;B=S", "SA BS", ",SB,SAB,B", false},
		{"2 1;S=ASAA;A=S;A=", "SB AS BS CA", ",SABC,AC,SABC,C", true},
	}
}

// has tells whether a list of lists has just this one.
func has(table lists, list ...int) bool {
	return slices.ContainsFunc(table, func(other []int) bool { return slices.Equal(other, list) })
}

// wantedUnitPairs asks of each nonterminal and each symbol whether it stands for
// it directly, the empty words being enumerated.
func wantedUnitPairs(b impl.Binary) lists {
	empty := emptyOnes(b)
	var out lists
	for non := range b.Nons {
		for x := -b.Toks; x < b.Nons; x++ {
			is := has(b.Ones, non, x)
			for _, other := range empty {
				is = is || has(b.Pairs, non, x, other) || has(b.Pairs, non, other, x)
			}
			if is {
				out = append(out, []int{non, x})
			}
		}
	}
	return out
}

// marked adds a token of its own that a symbol alone derives: what derives the
// word of just that token stands for the symbol.
func marked(b impl.Binary, x int) (impl.Grammar, string) {
	g := plainRules(b)
	if x < 0 {
		return g, tokLetters[-1-x : -x]
	}
	g.Rules = append(g.Rules, rule(x, token(g.Toks)))
	g.Toks++
	return g, tokLetters[b.Toks : b.Toks+1]
}

// wantedUnitRow takes the words that are derived, and no units.
func wantedUnitRow(b impl.Binary, x int) []int {
	g, mark := marked(b, x)
	var out []int
	for non, words := range enumerated(g, 1) {
		if words.has(mark) {
			out = append(out, non)
		}
	}
	return out
}

// isRoundAt adds a nonterminal with the same rules, so that the mark comes of
// one step or more.
func isRoundAt(b impl.Binary, non int) bool {
	g, mark := marked(b, non)
	for _, r := range plainRules(b).Rules {
		if r.Left == non {
			g.Rules = append(g.Rules, rule(g.Nons, r.Right...))
		}
	}
	g.Nons++
	return enumerated(g, 1)[g.Nons-1].has(mark)
}

func hasRoundByWords(b impl.Binary) bool {
	for non := range b.Nons {
		if isRoundAt(b, non) {
			return true
		}
	}
	return false
}

// someOf has the lists with at most most of a table's lists, in their order.
func someOf(table lists, most int) []lists {
	out := []lists{nil}
	for _, list := range table {
		for _, some := range slices.Clone(out) {
			if len(some) < most {
				out = append(out, append(slices.Clone(some), list))
			}
		}
	}
	return out
}

// eachAlone has a list for each of the numbers.
func eachAlone(count int) lists {
	var out lists
	for x := range count {
		out = append(out, []int{x})
	}
	return out
}

// setsUpTo has all rising lists of the numbers.
func setsUpTo(count int) lists {
	var out lists
	for _, some := range someOf(eachAlone(count), count) {
		out = append(out, slices.Concat(some...))
	}
	return out
}

// smallBinaries are all with one nonterminal and one token, all with two, two
// Pairs and one of Ones at most, and all Ones of three nonterminals.
func smallBinaries() []impl.Binary {
	var out []impl.Binary
	add := func(nons, pairs, ones int) {
		for _, p := range someOf(fullLists(nons, 1, 2), pairs) {
			for _, o := range someOf(fullLists(nons, 1, 1), ones) {
				for _, empty := range setsUpTo(nons) {
					out = append(out, impl.Binary{Nons: nons, Toks: 1, Pairs: p, Ones: o, Empty: empty})
				}
			}
		}
	}
	add(1, 4, 2)
	add(2, 2, 1)
	nonsAlone := slices.DeleteFunc(fullLists(3, 1, 1), func(l []int) bool { return l[1] < 0 })
	for _, o := range someOf(nonsAlone, 9) {
		out = append(out, impl.Binary{Nons: 3, Toks: 1, Ones: o})
	}
	return out
}

// unitBinaries have three tokens at most, since marked adds one.
func unitBinaries() []impl.Binary {
	all := append(smallBinaries(), pickedBinaries(500)...)
	for _, c := range unitCases() {
		all = append(all, c.binary())
	}
	for _, g := range pickedGrammars(300, 6, 12, 5) {
		all = append(all, wantedBinary(g))
	}
	return slices.DeleteFunc(all, func(b impl.Binary) bool { return b.Toks > 3 })
}

func wantNoUnits(t *testing.T, name string, b impl.Binary, set []int, x int) {
	t.Helper()
	pairs, ok := impl.UnitPairs(b)
	wantNoTable(t, name+" UnitPairs", pairs, ok)
	closed, ok := impl.ClosedSet(b, set)
	wantNoList(t, name+" ClosedSet", closed, ok)
	row, ok := impl.UnitRow(b, x)
	wantNoList(t, name+" UnitRow", row, ok)
	rows, ok := impl.UnitRows(b)
	wantNoTable(t, name+" UnitRows", rows, ok)
	is, ok := impl.HasUnitRound(b)
	wantNotTold(t, name+" HasUnitRound", is, ok)
}

func wantRound(t *testing.T, name string, b impl.Binary, want bool) {
	t.Helper()
	if is, ok := impl.HasUnitRound(b); !ok || is != want {
		t.Errorf("%s: got %v, %v; want %v, true", name, is, ok, want)
	}
}
