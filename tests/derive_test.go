package tests

import (
	"slices"
	"strings"
	"testing"

	"loop.example/g00758/impl"
)

// empty stands for the empty word in a list of words by their letters.
const empty = "-"

func wordsOf(list string) [][]int {
	words := [][]int{}
	for _, text := range strings.Fields(list) {
		words = append(words, wordOf(strings.TrimPrefix(text, empty)))
	}
	return words
}

// deriveCase has symbols, and words that they derive and that they do not,
// written by hand.
type deriveCase struct {
	name, text, symbols, yes, no string
}

func deriveCases() []deriveCase {
	cases := append(ordinaryDerivations(), nothingDerived()...)
	cases = append(cases, emptyDerivations()...)
	return append(cases, roundDerivations()...)
}

func ordinaryDerivations() []deriveCase {
	const sums = "3 3;S=SaA;S=A;A=AbB;A=B;B=c"
	return []deriveCase{
		{"pairs", "1 2;S=aSb;S=", "S", "- ab aabb aaabbb aaaabbbb aaaaabbbbb", "a b ba aab abb abab bbaa aaaaabbbba baaaabbbbb aaaabbbbbb"},
		{"one token", "1 1;S=a", "S", "a", "- aa aaaaaaaaaa"},
		{"last token of four", "1 4;S=dS;S=d", "S", "d dd dddddddddd", "- a da cd ddddddddda cddddddddd"},
		{"each token of four", "4 4;S=aA;A=bB;B=cC;C=d", "S", "abcd", "- a ab abc abcda dcba bcd abdc"},
		{"sums", sums, "S", "c cac cbc cacbc cbcac cacacacbc", "- a b ca ac cc cab cacacacbca"},
		{"part of sums", sums, "A", "c cbc cbcbc", "- cac cbcac a"},
		{"last part of sums", sums, "B", "c", "- cbc cc"},
		{"ten tokens, one ahead", "1 1;S=aS;S=", "S", "- a aaaaa aaaaaaaaa aaaaaaaaaa", ""},
		{"ten tokens, one behind", "1 1;S=Sa;S=a", "S", "a aa aaaaaaaaa aaaaaaaaaa", "-"},
		{"ten tokens, four by four", "1 1;S=SSSS;S=a", "S", "a aaaa aaaaaaa aaaaaaaaaa", "- aa aaa aaaaa aaaaaaaaa"},
		{"just ten tokens", "3 2;S=AAB;A=aaaa;B=bb", "S", "aaaaaaaabb", "- aaaaaaaab aaaaaaabb aaaaaaaaab bbaaaaaaaa"},
		{"more than ten tokens", "2 1;S=AAAA;A=aaa", "S", "", "- a aaa aaaaaaaaa aaaaaaaaaa"},
		{"even mirrors", "1 2;S=aSa;S=bSb;S=", "S", "- aa bb abba baab abbaaaabba abbbaabbba", "a ab abab aba abbaabbabb"},
		{"chain of six", "6 1;S=A;A=B;B=C;C=D;D=E;E=a", "S", "a", "- aa"},
		{"chain of six, against", "6 1;E=a;D=E;C=D;B=C;A=B;S=A", "S", "a", "- aa"},
		{"last of six", "6 1;S=A;A=B;B=C;C=D;D=Ea;E=a", "E", "a", "- aa"},
		{"two cuts that fit", "3 2;S=AB;A=a;A=aa;B=b;B=ab", "S", "ab aab aaab", "- a b aa bb aaaab abb"},
	}
}

func nothingDerived() []deriveCase {
	const all = "- a b ab aaaaaaaaaa"
	return []deriveCase{
		{"no rules", "1 2", "S", "", all},
		{"no rules, most symbols", "6 4", "E", "", all + " d abcd"},
		{"no rule of one", "2 2;S=a;S=b;S=", "A", "", all},
		{"no rule of the start", "2 2;A=a;A=", "S", "", all},
		{"only back to itself", "1 2;S=S", "S", "", all},
		{"only back to itself, a token ahead", "1 2;S=aS", "S", "", all},
		{"only back to itself, twice", "1 2;S=SS", "S", "", all},
		{"only back beside what derives the empty word", "2 2;S=ASA;A=", "S", "", all},
		{"only back to each other", "2 2;S=A;A=S", "A", "", all},
		{"only back to each other, with tokens", "2 2;S=aA;A=Sb", "S", "", all},
		{"rules that derive nothing beside others", "3 2;S=a;S=AB;A=b;B=aB", "S", "a", "- b ab ba bab"},
		{"a symbol without a rule at the end", "2 2;S=abA;S=b", "S", "b", "- ab a"},
		{"a symbol without a rule ahead", "2 2;S=Aab;S=b", "S", "b", "- ab a"},
		{"a symbol without a rule in the middle", "2 2;S=aAb;S=b", "S", "b", "- ab a"},
	}
}

func emptyDerivations() []deriveCase {
	return []deriveCase{
		{"empty Right alone", "1 1;S=", "S", "-", "a aa"},
		{"empty ahead", "2 2;S=Aab;A=", "S", "ab", "- a b aab"},
		{"empty in the middle", "2 2;S=aAb;A=", "S", "ab", "- a b aab"},
		{"empty behind", "2 2;S=abA;A=", "S", "ab", "- a b abb"},
		{"two empty in the middle", "3 2;S=aABb;A=;B=", "S", "ab", "- a b aab abb"},
		{"empty in the middle of empty ones", "4 1;S=ABC;A=;B=;C=", "S", "-", "a"},
		{"empty in the middle of late empty ones", "4 1;S=ABC;A=CB;B=;C=BB", "S", "-", "a aa"},
		{"empty in the middle, or a token", "4 2;S=ABC;A=a;A=;B=;B=b;C=a;C=", "S", "- a b ab ba aa aba", "bb aab baa abaa"},
		{"four that can be empty", "2 1;S=AAAA;A=;A=a", "S", "- a aa aaa aaaa", "aaaaa aaaaaaaaaa"},
		{"chain to the empty word", "6 1;S=A;A=B;B=C;C=D;D=E;E=", "S", "-", "a"},
	}
}

func roundDerivations() []deriveCase {
	return []deriveCase{
		{"stands for itself", "1 1;S=S;S=a", "S", "a", "- aa"},
		{"stands for itself, rule last", "1 1;S=a;S=S", "S", "a", "- aa"},
		{"stands for itself, empty", "1 1;S=S;S=", "S", "-", "a"},
		{"itself ahead of the empty word", "2 1;S=SA;S=a;A=", "S", "a", "- aa"},
		{"itself behind the empty word", "2 1;S=AS;S=a;A=", "S", "a", "- aa"},
		{"itself between empty words", "2 1;S=ASA;S=a;A=", "S", "a", "- aa"},
		{"itself beside two of them", "3 1;S=SAB;S=a;A=B;B=", "S", "a", "- aa"},
		{"itself twice, empty", "1 1;S=SS;S=", "S", "-", "a aa"},
		{"itself twice, empty or a token", "1 1;S=SS;S=;S=a", "S", "- a aa aaaaaaaaa aaaaaaaaaa", ""},
		{"two stand for each other", "2 2;S=A;A=S;S=a;A=b", "S", "a b", "- aa ab ba bb"},
		{"two stand for each other, the other one", "2 2;S=A;A=S;S=a;A=b", "A", "a b", "- aa ab ba bb"},
		{"two come back with tokens", "2 2;S=aA;A=Sb;S=", "S", "- ab aabb aaaaabbbbb", "a b aab abb ba"},
		{"two come back with tokens, the other one", "2 2;S=aA;A=Sb;S=", "A", "b abb aabbb aaaabbbbb", "- a ab bb aabb"},
		{"three come back", "3 2;S=A;A=B;B=S;B=a;S=bS", "A", "a ba bba bbbbbbbbba", "- b ab aa bab"},
		{"three come back beside empty words", "4 2;S=CA;A=BC;B=CSC;B=a;C=", "S", "a", "- b aa"},
	}
}

// sequenceCases have no symbols, several of them, and MaxRight of them.
func sequenceCases() []deriveCase {
	const pairs = "2 2;S=aSb;S="
	return []deriveCase{
		{"no symbols", pairs, "", "-", "a b ab aaaaaaaaaa"},
		{"no symbols, no rules", "1 1", "", "-", "a"},
		{"a token", pairs, "a", "a", "- b aa ab"},
		{"the other token", pairs, "b", "b", "- a bb ba"},
		{"a nonterminal without a rule", pairs, "A", "", "- a ab"},
		{"a nonterminal without a rule beside a token", pairs, "aA", "", "- a ab"},
		{"a nonterminal without a rule behind empty ones", pairs, "SSSA", "", "- a ab"},
		{"a token ahead of pairs", pairs, "aS", "a aab aaabb", "- b ab aaab"},
		{"two pairs", pairs, "SS", "- ab abab aabbab abaabb aaabbbaabb", "a b ba abababab"},
		{"four pairs", pairs, "SSSS", "- ab abab ababab abababab aabbababab", "a ababababab abababaaaa"},
		{"pairs between tokens", pairs, "bSSa", "ba baba babaabba baabbaba baaabbbaba", "- ab b baaba bababababa baaaabbbb"},
		{"four tokens", "1 4", "dcba", "dcba", "- d dcb abcd dcbaa ddcba"},
		{"four that can be empty", "1 2;S=;S=a;S=bb", "SSSS", "- a bb aaaa abba bbbbbbbb bbabbbb", "b ab aaaaa bbb bbbbbbbbbb"},
		{"four with one token", "1 2;S=;S=a", "SbSS", "b ab ba aba baa abaa", "- a aa aab bb aaba baaa"},
		{"ten tokens", "2 1;S=aaa;A=a", "SSSA", "aaaaaaaaaa", "- aaaaaaaaa a"},
		{"more than ten tokens", "1 1;S=aaa", "SSSS", "", "- aaaaaaaaaa"},
	}
}

func TestMaxShortIsTheDocuments(t *testing.T) {
	if impl.MaxShort != 4 {
		t.Error("MaxShort", impl.MaxShort)
	}
}

// check asks of each word of the case, and wants what is written there.
func (c deriveCase) check(t *testing.T, ask func(g impl.Grammar, w []int) (bool, bool)) {
	t.Helper()
	for want, list := range map[bool]string{true: c.yes, false: c.no} {
		for _, w := range wordsOf(list) {
			is, ok := ask(grammarOf(c.text), w)
			wantTold(t, c.name+" "+wordLetters(w), is, ok, want)
		}
	}
}

func TestDerives(t *testing.T) {
	for _, c := range deriveCases() {
		c.check(t, func(g impl.Grammar, w []int) (bool, bool) {
			return impl.Derives(g, nonsOf(c.symbols)[0], w)
		})
	}
}

func TestInLanguage(t *testing.T) {
	for _, c := range deriveCases() {
		if c.symbols == "S" {
			c.check(t, impl.InLanguage)
		}
	}
}

func TestSequenceDerives(t *testing.T) {
	for _, c := range append(deriveCases(), sequenceCases()...) {
		c.check(t, func(g impl.Grammar, w []int) (bool, bool) {
			return impl.SequenceDerives(g, symbolsOf(c.symbols), w)
		})
	}
}

// A nil list is the empty one.
func TestDerivesTakesNilLists(t *testing.T) {
	g := goodGrammars()["pairs"]
	is, ok := impl.Derives(g, 0, nil)
	wantTold(t, "Derives", is, ok, true)
	is, ok = impl.InLanguage(g, nil)
	wantTold(t, "InLanguage", is, ok, true)
	is, ok = impl.SequenceDerives(g, nil, nil)
	wantTold(t, "SequenceDerives", is, ok, true)
	is, ok = impl.SequenceDerives(g, nil, []int{0})
	wantTold(t, "SequenceDerives of a token", is, ok, false)
}

func TestSpansOf(t *testing.T) {
	for _, c := range []struct {
		text, word string
		want       [][]int
	}{
		{"1 2;S=aSb;S=", "ab", [][]int{{0, 0, 0}, {0, 2, 0}, {1, 1, 0}, {2, 2, 0}}},
		{"1 2;S=aSb;S=", "", [][]int{{0, 0, 0}}},
		{"1 2;S=aSb", "", nil},
		{"1 1", "", nil},
		{"1 1", "aa", nil},
		{"6 4", "abcdabcdab", nil},
		{"3 2;S=;A=B;B=", "", [][]int{{0, 0, 0}, {0, 0, 1}, {0, 0, 2}}},
		{"3 2;S=AB;A=a;B=b;B=", "ab", [][]int{{0, 0, 2}, {0, 1, 0}, {0, 1, 1}, {0, 2, 0}, {1, 1, 2}, {1, 2, 2}, {2, 2, 2}}},
		{"2 1;S=a;A=aa", "aaa", [][]int{{0, 1, 0}, {0, 2, 1}, {1, 2, 0}, {1, 3, 1}, {2, 3, 0}}},
		{"2 1;A=a;S=aa", "aaa", [][]int{{0, 1, 1}, {0, 2, 0}, {1, 2, 1}, {1, 3, 0}, {2, 3, 1}}},
		{"6 2;E=b;D=b;C=E;S=a", "ba", [][]int{{0, 1, 3}, {0, 1, 4}, {0, 1, 5}, {1, 2, 0}}},
		{"2 1;S=aS;A=", "a", [][]int{{0, 0, 1}, {1, 1, 1}}},
	} {
		spans, ok := impl.SpansOf(grammarOf(c.text), wordOf(c.word))
		wantTable(t, c.text+" "+c.word, spans, ok, c.want)
	}
}

func TestSpansOfTellsTheEmptyPartAtEachPlace(t *testing.T) {
	g := grammarOf("3 1;S=AA;A=;B=aaaa")
	for long := 0; long <= 10; long++ {
		var want [][]int
		for from := 0; from <= long; from++ {
			want = append(want, []int{from, from, 0}, []int{from, from, 1})
			if from+4 <= long {
				want = append(want, []int{from, from + 4, 2})
			}
		}
		spans, ok := impl.SpansOf(g, make([]int, long))
		wantTable(t, "length "+numberText(long), spans, ok, want)
	}
}

// All three numbers there are, at a word of MaxWord tokens.
func TestSpansOfTellsAll(t *testing.T) {
	g := grammarOf("6 1;S=SS;S=;S=a;A=S;B=A;C=B;D=C;E=D")
	var want [][]int
	for from := 0; from <= 10; from++ {
		for to := from; to <= 10; to++ {
			for non := range 6 {
				want = append(want, []int{from, to, non})
			}
		}
	}
	spans, ok := impl.SpansOf(g, make([]int, 10))
	wantTable(t, "all", spans, ok, want)
}

func TestShortWords(t *testing.T) {
	for _, c := range []struct {
		text string
		most int
		want string
	}{
		{"1 2;S=aSb;S=", 4, "- ab aabb"},
		{"1 2;S=aSb;S=", 3, "- ab"},
		{"1 2;S=aSb;S=", 1, "-"},
		{"1 2;S=aSb;S=", 0, "-"},
		{"1 2;S=aSb;S=ab", 0, ""},
		{"1 2;S=aSb;S=ab", 1, ""},
		{"1 2;S=aSb;S=ab", 2, "ab"},
		{"1 1", 4, ""},
		{"6 4", 0, ""},
		{"1 1;S=S", 4, ""},
		{"2 2;S=aA;A=bA", 4, ""},
		{"2 2;A=a;A=", 4, ""},
		{"1 1;S=SS;S=a", 4, "a aa aaa aaaa"},
		{"1 1;S=SS;S=a;S=;S=S", 4, "- a aa aaa aaaa"},
		{"1 1;S=SSSS;S=aaa", 4, "aaa"},
		{"2 1;S=AAAA;A=aa", 4, ""},
		{"2 4;S=AA;A=d;A=c;A=b;A=a", 4, "aa ab ac ad ba bb bc bd ca cb cc cd da db dc dd"},
		{"1 4;S=dcba;S=dcb;S=dc;S=d;S=", 4, "- d dc dcb dcba"},
		{"1 3;S=b;S=aaaa;S=ac;S=c;S=ab;S=caaa;S=bcc", 4, "b c ab ac bcc aaaa caaa"},
		{"1 3;S=b;S=aaaa;S=ac;S=c;S=ab;S=caaa;S=bcc", 3, "b c ab ac bcc"},
		{"3 2;S=A;S=B;S=ab;A=aB;B=b;A=ab;S=aSb", 4, "b ab abb aabb"},
	} {
		words, ok := impl.ShortWords(grammarOf(c.text), c.most)
		wantTable(t, c.text+" "+numberText(c.most), words, ok, wordsOf(c.want))
	}
}

func TestShortWordsTellsAllWordsOfFourTokens(t *testing.T) {
	for most, count := range []int{1, 5, 21, 85, 341} {
		for _, text := range []string{"1 4;S=Sa;S=Sb;S=Sc;S=Sd;S=", "2 4;S=SS;S=A;S=;A=d;A=c;A=b;A=a"} {
			words, ok := impl.ShortWords(grammarOf(text), most)
			wantTable(t, text, words, ok, wordsUpTo(4, most))
			if len(words) != count {
				t.Error(text, most, len(words))
			}
		}
	}
}

func TestDeriveFunctionsOfGrammarsThatAreNotGood(t *testing.T) {
	for name, g := range badGrammars() {
		for _, w := range [][]int{nil, {0}, {0, 0}} {
			is, ok := impl.Derives(g, 0, w)
			wantNotTold(t, name+" Derives", is, ok)
			is, ok = impl.InLanguage(g, w)
			wantNotTold(t, name+" InLanguage", is, ok)
			is, ok = impl.SequenceDerives(g, w, w)
			wantNotTold(t, name+" SequenceDerives", is, ok)
			spans, ok := impl.SpansOf(g, w)
			wantNoTable(t, name+" SpansOf", spans, ok)
			form, ok := impl.DeriveStep(g, []int{0}, 0, 0)
			wantNoList(t, name+" DeriveStep", form, ok)
			form, ok = impl.RewritesTo(g, w)
			wantNoList(t, name+" RewritesTo", form, ok)
		}
		for most := range 5 {
			words, ok := impl.ShortWords(g, most)
			wantNoTable(t, name+" ShortWords", words, ok)
		}
	}
}

func TestDeriveFunctionsOfNoWord(t *testing.T) {
	g := grammarOf("1 2;S=SS;S=a;S=b;S=")
	words := [][]int{
		{2}, {-1}, {token(0), token(1)}, {0, 1, 2}, make([]int, 11), append(make([]int, 9), 2), make([]int, 100000),
	}
	for _, x := range oddInts() {
		words = append(words, []int{x}, []int{0, x}, []int{x, 0, 1})
	}
	for _, w := range words {
		is, ok := impl.Derives(g, 0, w)
		wantNotTold(t, "Derives", is, ok)
		is, ok = impl.InLanguage(g, w)
		wantNotTold(t, "InLanguage", is, ok)
		is, ok = impl.SequenceDerives(g, []int{0}, w)
		wantNotTold(t, "SequenceDerives", is, ok)
		is, ok = impl.SequenceDerives(g, nil, w)
		wantNotTold(t, "SequenceDerives of no symbols", is, ok)
		spans, ok := impl.SpansOf(g, w)
		wantNoTable(t, "SpansOf", spans, ok)
	}
}

func TestDerivesOfNoNonterminal(t *testing.T) {
	for nons := 1; nons <= 6; nons++ {
		g := grammar(nons, 2, rule(0), rule(0, token(0)), rule(nons-1, token(1)))
		for _, non := range append(oddInts(), -1, -2, -3, nons, nons+1, 6) {
			for _, w := range [][]int{nil, {0}, {1}} {
				is, ok := impl.Derives(g, non, w)
				wantNotTold(t, "nonterminal "+numberText(non), is, ok)
			}
		}
	}
}

func TestSequenceDerivesOfNoSuchSymbols(t *testing.T) {
	g := grammarOf("2 2;S=;S=a;A=")
	lists := [][]int{make([]int, 5), {0, 0, 0, 0, 1}, make([]int, 100000), slices.Repeat([]int{token(0)}, 5)}
	for _, x := range append(oddInts(), 2, 3, 6, token(2), token(3), token(4)) {
		lists = append(lists, []int{x}, []int{0, x}, []int{x, 0}, []int{0, 1, 0, x}, []int{token(0), x, token(1)})
	}
	for _, right := range lists {
		for _, w := range [][]int{nil, {0}, make([]int, 5), make([]int, 10)} {
			is, ok := impl.SequenceDerives(g, right, w)
			wantNotTold(t, "symbols", is, ok)
		}
	}
}

func TestShortWordsOfNoSuchMost(t *testing.T) {
	for _, most := range append(oddInts(), -1, 5, 6, 10) {
		for _, text := range []string{"1 1;S=;S=a", "1 1"} {
			words, ok := impl.ShortWords(grammarOf(text), most)
			wantNoTable(t, "most "+numberText(most), words, ok)
		}
	}
}
