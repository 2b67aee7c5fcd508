package tests

import (
	"testing"

	"loop.example/g00758/impl"
)

func grammarsOf(texts ...string) []impl.Grammar {
	var out []impl.Grammar
	for _, text := range texts {
		out = append(out, grammarOf(text))
	}
	return out
}

// wideGrammars have three or four tokens.
func wideGrammars() []impl.Grammar {
	return grammarsOf(
		"1 4;S=SS;S=a;S=d;S=bSc;S=",
		"3 3;S=SaA;S=A;A=AbB;A=B;B=c",
		"4 4;S=aAd;S=;A=bBc;A=S;B=C;B=CC;C=AB;C=d",
		"6 4;S=EEDD;E=a;E=;D=Cb;D=E;C=cC;C=BA;B=;A=dS;A=B",
		"2 3;S=ASA;S=b;S=A;A=;A=aA;A=S;A=c",
	)
}

func derivingGrammars() []impl.Grammar {
	all := append(smallGrammars(), someGrammars(800)...)
	all = append(all, pickedGrammars(600, 6, 17, 4)...)
	for _, c := range append(deriveCases(), sequenceCases()...) {
		all = append(all, grammarOf(c.text))
	}
	return append(all, wideGrammars()...)
}

// tally tells how often each answer came, so that no test passes by one alone.
type tally map[bool]int

func (c tally) wantBoth(t *testing.T, least int) {
	t.Helper()
	if c[true] < least || c[false] < least {
		t.Error("too few of a kind to tell:", c)
	}
}

// wantDerived asks of each nonterminal, and of the language, what is enumerated.
func wantDerived(t *testing.T, g impl.Grammar, w []int, found derivedWords, seen tally) {
	t.Helper()
	for non := range g.Nons {
		want := found[non].has(wordLetters(w))
		if is, ok := impl.Derives(g, non, w); !ok || is != want {
			t.Fatal(g, non, w, is, ok, want)
		}
		seen[want]++
	}
	want := found[0].has(wordLetters(w))
	if is, ok := impl.InLanguage(g, w); !ok || is != want {
		t.Fatal(g, w, is, ok, want)
	}
}

func TestDerivesWhatIsEnumerated(t *testing.T) {
	seen := tally{}
	for _, g := range derivingGrammars() {
		found := enumerated(g, 4)
		for _, w := range wordsUpTo(g.Toks, 4) {
			wantDerived(t, g, w, found, seen)
		}
	}
	seen.wantBoth(t, 10000)
}

// One token alone, up to MaxWord of it, by all small grammars.
func TestDerivesLongWordsOfOneToken(t *testing.T) {
	seen := tally{}
	for _, g := range smallGrammars() {
		found := enumerated(g, 10)
		for long := 0; long <= 10; long++ {
			wantDerived(t, g, make([]int, long), found, seen)
		}
	}
	seen.wantBoth(t, 5000)
}

// longGrammars have two tokens, and words of MaxWord of them.
func longGrammars() []impl.Grammar {
	return grammarsOf(
		"1 2;S=aSb;S=",
		"1 2;S=SS;S=aSb;S=",
		"1 2;S=aSbS;S=bSaS;S=",
		"1 2;S=aSa;S=bSb;S=;S=a",
		"3 2;S=AB;A=aAb;A=;B=Bba;B=A",
		"3 2;S=ASB;S=b;A=;A=a;B=A;B=S",
		"4 2;S=AAAB;A=aB;A=b;B=CbC;C=SA;C=;C=aa",
		"2 2;S=A;A=S;A=aSA;S=b;A=",
	)
}

func TestDerivesLongWordsOfTwoTokens(t *testing.T) {
	seen := tally{}
	for _, g := range longGrammars() {
		found := enumerated(g, 10)
		for _, w := range wordsUpTo(2, 10) {
			wantDerived(t, g, w, found, seen)
		}
	}
	seen.wantBoth(t, 5000)
}

// allSequences are all lists of at most MaxRight symbols.
func allSequences(g impl.Grammar) [][]int {
	var out [][]int
	for _, digits := range wordsUpTo(g.Nons+g.Toks, 4) {
		list := []int{}
		for _, d := range digits {
			list = append(list, d-g.Toks)
		}
		out = append(out, list)
	}
	return out
}

func wantSequence(t *testing.T, g impl.Grammar, right []int, most int, found derivedWords, seen tally) {
	t.Helper()
	derived := found.of(right, most)
	for _, w := range wordsUpTo(g.Toks, most) {
		want := derived.has(wordLetters(w))
		if is, ok := impl.SequenceDerives(g, right, w); !ok || is != want {
			t.Fatal(g, right, w, is, ok, want)
		}
		seen[want]++
	}
}

func TestSequenceDerivesWhatIsEnumerated(t *testing.T) {
	seen := tally{}
	for i, g := range smallGrammars() {
		if i%7 != 0 {
			continue
		}
		found := enumerated(g, 6)
		for _, right := range allSequences(g) {
			wantSequence(t, g, right, 6, found, seen)
		}
	}
	p := picker{7}
	for _, g := range append(pickedGrammars(400, 6, 17, 4), wideGrammars()...) {
		found := enumerated(g, 4)
		for range 5 {
			wantSequence(t, g, p.symbols(g, p.pick(5)), 4, found, seen)
		}
	}
	seen.wantBoth(t, 10000)
}

// A rule's Left derives what its Right does.
func TestDerivesWhatTheRightOfARuleDerives(t *testing.T) {
	for _, g := range append(someGrammars(100), wideGrammars()...) {
		for _, r := range g.Rules {
			for _, w := range wordsUpTo(g.Toks, 3) {
				right, ok := impl.SequenceDerives(g, r.Right, w)
				if !ok {
					t.Fatal(g, r, w)
				}
				if left, ok := impl.Derives(g, r.Left, w); !ok || right && !left {
					t.Fatal(g, r, w)
				}
			}
		}
	}
}

// wantedSpans asks the enumeration about each part of the word.
func wantedSpans(found derivedWords, w []int) [][]int {
	text := wordLetters(w)
	var spans [][]int
	for from := 0; from <= len(w); from++ {
		for to := from; to <= len(w); to++ {
			for non := range found {
				if found[non].has(text[from:to]) {
					spans = append(spans, []int{from, to, non})
				}
			}
		}
	}
	return spans
}

func TestSpansOfWhatIsEnumerated(t *testing.T) {
	for _, g := range derivingGrammars() {
		found := enumerated(g, 4)
		for i, w := range wordsUpTo(g.Toks, 4) {
			if g.Toks > 1 && i%3 != 0 {
				continue
			}
			spans, ok := impl.SpansOf(g, w)
			wantTable(t, "spans", spans, ok, wantedSpans(found, w))
		}
	}
	p := picker{11}
	for _, g := range longGrammars() {
		found := enumerated(g, 10)
		for range 60 {
			w := make([]int, p.pick(11))
			for at := range w {
				w[at] = p.pick(2)
			}
			spans, ok := impl.SpansOf(g, w)
			wantTable(t, "spans", spans, ok, wantedSpans(found, w))
		}
	}
}

func TestShortWordsWhatIsEnumerated(t *testing.T) {
	told := 0
	for _, g := range derivingGrammars() {
		found := enumerated(g, 4)
		for most := 0; most <= 4; most++ {
			want := [][]int{}
			for _, text := range found[0].all(most) {
				want = append(want, wordOf(text))
			}
			words, ok := impl.ShortWords(g, most)
			wantTable(t, "short words", words, ok, want)
			told += len(words)
		}
	}
	if told < 5000 {
		t.Error("too few words to tell:", told)
	}
}
