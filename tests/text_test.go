package tests

import (
	"math"
	"slices"
	"strings"
	"testing"

	"loop.example/g00758/impl"
)

func TestMaxTextIsTheDocuments(t *testing.T) {
	if impl.MaxText != 600 {
		t.Error("MaxText", impl.MaxText)
	}
}

func TestSymbolText(t *testing.T) {
	want := map[int]string{0: "S", 1: "A", 2: "B", 3: "C", 4: "D", 5: "E", -1: "a", -2: "b", -3: "c", -4: "d"}
	numbers := append(oddInts(), math.MinInt32, math.MaxInt32, -256, -255, 255, 256)
	for x := -20; x <= 20; x++ {
		numbers = append(numbers, x)
	}
	for _, x := range numbers {
		letter, there := want[x]
		if got, ok := impl.SymbolText(x); got != letter || ok != there {
			t.Errorf("SymbolText(%d): got %q, %v; want %q, %v", x, got, ok, letter, there)
		}
	}
}

func TestGrammarText(t *testing.T) {
	for want, g := range wantedTexts() {
		if got, ok := impl.GrammarText(g); got != want || !ok {
			t.Errorf("GrammarText(%v): got %q, %v; want %q, true", g, got, ok, want)
		}
	}
}

func TestGrammarTextOfNoGoodGrammar(t *testing.T) {
	for name, g := range badGrammars() {
		if got, ok := impl.GrammarText(g); got != "" || ok {
			t.Errorf("%s: got %q, %v; want the zero answer", name, got, ok)
		}
	}
}

func TestReadGrammar(t *testing.T) {
	for text, want := range wantedTexts() {
		wantGrammar(t, text, wantRead(t, text), true, want)
	}
}

// Promise 2, from the grammar on.
func TestReadingInvertsWriting(t *testing.T) {
	all := goodGrammars()
	all["full"] = wantRead(t, fullText())
	for i, g := range someGrammars(400) {
		all["made "+numberText(i)] = g
	}
	for nons := 1; nons <= 6; nons++ {
		for toks := 1; toks <= 4; toks++ {
			last := rule(nons-1, nons-1, token(toks-1), nons-1, token(toks-1))
			all["counts "+numberText(10*nons+toks)] = grammar(nons, toks, last, rule(0))
		}
	}
	for name, g := range all {
		text, ok := impl.GrammarText(g)
		if !ok || len(text) > 600 {
			t.Errorf("%s: GrammarText: %q, %v", name, text, ok)
		}
		wantGrammar(t, name, wantRead(t, text), true, g)
	}
}

// Promise 2, from the text on.
func TestWritingInvertsReading(t *testing.T) {
	for _, text := range textsRead() {
		if got, ok := impl.GrammarText(wantRead(t, text)); got != text || !ok {
			t.Errorf("text of %q: got %q, %v", text, got, ok)
		}
	}
}

func TestFullGrammarHasAllOfEach(t *testing.T) {
	g := wantRead(t, fullText())
	if g.Nons != impl.MaxNon || g.Toks != impl.MaxTok || len(g.Rules) != impl.MaxRules {
		t.Error("counts", g)
	}
	for i, r := range g.Rules {
		want := rule(i%6, token(3), 5, token(i/6), 5-i%6)
		if r.Left != want.Left || !slices.Equal(r.Right, want.Right) {
			t.Error("rule", i, r, want)
		}
	}
}

func TestWordText(t *testing.T) {
	most := grammar(1, 4)
	two := grammar(1, 2)
	for _, c := range []struct {
		g    impl.Grammar
		w    []int
		want string
	}{
		{most, nil, ""}, {most, []int{}, ""}, {two, nil, ""},
		{most, []int{0}, "a"}, {most, []int{3, 2, 1, 0}, "dcba"}, {two, []int{0, 1, 1}, "abb"},
		{most, []int{0, 1, 2, 3, 0, 1, 2, 3, 3, 3}, "abcdabcddd"},
	} {
		if got, ok := impl.WordText(c.g, c.w); got != c.want || !ok {
			t.Errorf("WordText(%v): got %q, %v; want %q, true", c.w, got, ok, c.want)
		}
		w, place, ok := impl.ReadWord(c.g, c.want)
		wantList(t, "ReadWord "+c.want, w, ok, c.w...)
		if place != 0 {
			t.Error("place", place, c.want)
		}
	}
}

func TestWordTextOfNoWord(t *testing.T) {
	for _, w := range [][]int{
		{-1}, {2}, {0, 1, 2}, {token(0), token(1)}, {4}, {0, math.MinInt}, {math.MaxInt, 0},
		make([]int, 11), make([]int, 600), append(make([]int, 9), 2),
	} {
		if got, ok := impl.WordText(grammar(1, 2), w); got != "" || ok {
			t.Errorf("WordText(%v): got %q, %v; want the zero answer", w, got, ok)
		}
	}
	if got, ok := impl.WordText(grammar(1, 4), []int{4}); got != "" || ok {
		t.Errorf("got %q, %v; want the zero answer", got, ok)
	}
}

// Promise 2's like for words.
func TestReadingWordsInvertsWriting(t *testing.T) {
	for toks := 1; toks <= 4; toks++ {
		g := grammar(2, toks, rule(0, 1))
		words := append(wordsUpTo(toks, 4), make([]int, 10), slices.Repeat([]int{toks - 1, 0}, 5))
		for _, w := range words {
			text, ok := impl.WordText(g, w)
			if !ok || len(text) != len(w) {
				t.Errorf("WordText(%v): %q, %v", w, text, ok)
			}
			back, place, ok := impl.ReadWord(g, text)
			wantList(t, text, back, ok, w...)
			if place != 0 {
				t.Error("place", place, text)
			}
			if again, ok := impl.WordText(g, back); again != text || !ok {
				t.Errorf("text of %q: got %q, %v", text, again, ok)
			}
		}
	}
}

func wantNoWord(t *testing.T, g impl.Grammar, s string, want int) {
	t.Helper()
	w, place, ok := impl.ReadWord(g, s)
	if ok || place != want || len(w) != 0 {
		t.Errorf("ReadWord(%v, %q): got %v, %d, %v; want none, %d, false", g, s, w, place, ok, want)
	}
}

func TestReadWordAtEachByte(t *testing.T) {
	for toks := 1; toks <= 4; toks++ {
		g := grammar(6, toks, rule(0, token(0)))
		for b := 0; b < 256; b++ {
			for at := 0; at < 10; at++ {
				text := []byte(strings.Repeat("a", 10))
				text[at] = byte(b)
				if k := strings.IndexByte(tokLetters[:toks], byte(b)); k < 0 {
					wantNoWord(t, g, string(text), at)
				} else {
					want := make([]int, 10)
					want[at] = k
					w, place, ok := impl.ReadWord(g, string(text))
					wantList(t, string(text), w, ok, want...)
					if place != 0 {
						t.Error("place", place)
					}
				}
			}
		}
	}
}

func TestReadWordTellsTheFirstFault(t *testing.T) {
	g := grammar(2, 2, rule(0, 1))
	for text, place := range map[string]int{
		"c": 0, "ac": 1, "abd": 2, "abcd": 2, "abab babc": 4, "ab\n": 2, " ab": 0, "aS": 1, "Sa": 0, "A": 0, "aB": 1,
		"ab\x00": 2, "ab\xff\xfe": 2, "é": 0, "aé": 1, "ababababac": 9, "\nbbbbbbbb\n": 0, "e": 0, "`": 0, "-1": 0,
	} {
		wantNoWord(t, g, text, place)
	}
}

func TestReadWordOfTooLongATextTellsZero(t *testing.T) {
	g := grammar(1, 2)
	for _, text := range []string{
		strings.Repeat("a", 11), strings.Repeat("a", 10) + "c", "abc" + strings.Repeat("a", 8), "ab?" + strings.Repeat("b", 8),
		strings.Repeat("ab", 300), strings.Repeat("b", 601), strings.Repeat("a", 100000),
	} {
		wantNoWord(t, g, text, 0)
	}
}

func TestWordsOfNoGoodGrammar(t *testing.T) {
	for name, g := range badGrammars() {
		for _, w := range [][]int{nil, {}, {0}, {0, 0}, {-1}, make([]int, 11)} {
			if got, ok := impl.WordText(g, w); got != "" || ok {
				t.Errorf("%s: WordText: got %q, %v; want the zero answer", name, got, ok)
			}
		}
		for _, text := range []string{"", "a", "ab", "a?", "aaaa\n", strings.Repeat("a", 11)} {
			wantNoWord(t, g, text, 0)
		}
	}
}
