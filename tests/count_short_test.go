package tests

import (
	"slices"
	"testing"

	"loop.example/g00758/impl"
)

// noWordAt stands where no word of at most MaxShort tokens is ambiguous.
const noWordAt = "none"

// shortCase is a grammar and its first ambiguous word, written by hand.
type shortCase struct{ text, first string }

func shortCases() []shortCase {
	return []shortCase{
		{"1 1", noWordAt},
		{"6 4", noWordAt},
		{"1 1;S=", noWordAt},
		{"1 1;S=a", noWordAt},
		{"1 1;S=aS;S=", noWordAt},
		{"1 2;S=aSb;S=", noWordAt},
		{"3 3;S=SaA;S=A;A=AbB;A=B;B=c", noWordAt},
		{"1 1;S=S", noWordAt},
		{"2 1;S=a;A=A;A=a;A=AA", noWordAt},
		{"2 1;S=a;S=A;A=A", noWordAt},
		{"2 2;S=aA;A=b;A=aS", noWordAt},
		{"1 1;S=S;S=", ""},
		{"1 1;S=S;S=;S=a", ""},
		{"1 1;S=SS;S=;S=a", ""},
		{"2 1;S=A;A=;S=", ""},
		{"2 2;S=a;S=A;A=a;A=;S=", ""},
		{"6 1;S=AAAA;A=BBBB;B=CCCC;C=DDDD;D=;D=E;D=EE;E=", ""},
		{"1 1;S=S;S=a", "a"},
		{"1 4;S=S;S=d", "d"},
		{"1 4;S=S;S=d;S=c", "c"},
		{"2 1;S=A;S=a;A=a", "a"},
		{"2 1;S=AA;A=;A=a", "a"},
		{"2 2;S=AS;S=b;A=", "b"},
		{"2 1;S=AA;S=AAA;A=a;A=aa", "aaa"},
		{"2 1;S=Aa;S=aA;A=aa;A=a", "aa"},
		{"2 2;S=ab;S=ba;S=bb;S=A;A=ba;A=bb", "ba"},
		{"2 2;S=bb;S=A;A=ba;A=bb;S=ba", "ba"},
		{"2 2;S=aa;S=A;A=aa;A=b;S=b", "b"},
		{"2 2;S=A;S=bbb;S=aaaa;A=aaaa;A=bbb", "bbb"},
		{"2 2;S=A;S=aaaa;A=aaaa;A=aaab;S=aaab", "aaaa"},
		{"2 2;S=A;S=aaab;A=aaaa;A=aaab", "aaab"},
		{"1 1;S=SS;S=a", "aaa"},
		{"1 2;S=SS;S=a;S=b", "aaa"},
		{"1 2;S=SS;S=b", "bbb"},
		{"1 2;S=aS;S=aSbS;S=", "aab"},
		{"1 2;S=aS;S=aSbS;S=b", "aabbb"},
		{"2 4;S=dddd;S=A;A=dddd", "dddd"},
		{"2 4;S=A;S=S;A=dddc;A=cddd", "cddd"},
		{"2 1;S=aaaA;A=aa;S=aaAa", "aaaaa"},
		{"3 1;S=aA;A=aaaB;A=aaaS;B=", noWordAt},
		{"1 3;S=SaS;S=SbS;S=c", "cacac"},
	}
}

func TestShortAmbiguousCases(t *testing.T) {
	for _, c := range shortCases() {
		for most := range 5 {
			w, ok := impl.ShortAmbiguous(grammarOf(c.text), most)
			if c.first == noWordAt || len(c.first) > most {
				wantNoList(t, c.text+", "+numberText(most), w, ok)
			} else {
				wantList(t, c.text+", "+numberText(most), w, ok, wordOf(c.first)...)
			}
		}
	}
}

func TestShortAmbiguousOfNoGoodArguments(t *testing.T) {
	for _, c := range shortCases() {
		for _, most := range append(oddInts(), -1, -2, 5, 6) {
			w, ok := impl.ShortAmbiguous(grammarOf(c.text), most)
			wantNoList(t, c.text+", "+numberText(most), w, ok)
		}
	}
	for name, g := range badGrammars() {
		for most := -1; most <= 5; most++ {
			w, ok := impl.ShortAmbiguous(g, most)
			wantNoList(t, name, w, ok)
		}
	}
}

// A word that is too long to be told by ShortAmbiguous may be ambiguous.
func TestLongerWordsAreAmbiguous(t *testing.T) {
	for _, c := range shortCases() {
		if c.first != noWordAt {
			is, ok := impl.IsAmbiguous(grammarOf(c.text), wordOf(c.first))
			wantTold(t, c.text, is, ok, true)
		}
	}
}

func TestShortAmbiguousIsTheFirst(t *testing.T) {
	seen := tally{}
	for _, g := range derivingGrammars() {
		several := func(w []int) bool { return isSeveral(wantedTrees(g, w)) }
		words := wordsUpTo(g.Toks, 3)
		at := slices.IndexFunc(words, several)
		for most := range 4 {
			w, ok := impl.ShortAmbiguous(g, most)
			if isThere := at >= 0 && len(words[at]) <= most; ok != isThere || ok && !slices.Equal(w, words[at]) || !ok && len(w) > 0 {
				t.Fatal(g, most, w, ok, at)
			}
			seen[ok]++
		}
	}
	seen.wantBoth(t, 500)
}

// ShortWords and IsAmbiguous tell it, too.
func TestShortAmbiguousIsTheFirstOfShortWords(t *testing.T) {
	seen := tally{}
	for _, g := range derivingGrammars() {
		words, ok := impl.ShortWords(g, 4)
		at := slices.IndexFunc(words, func(w []int) bool {
			is, ok := impl.IsAmbiguous(g, w)
			return is && ok
		})
		w, isThere := impl.ShortAmbiguous(g, 4)
		if !ok || isThere != (at >= 0) || isThere && !slices.Equal(w, words[at]) {
			t.Fatal(g, w, isThere, words)
		}
		seen[isThere]++
	}
	seen.wantBoth(t, 100)
}
