package tests

import (
	"reflect"
	"slices"
	"strings"
	"testing"

	"loop.example/g00758/impl"
)

// everyText has good texts, faulty ones, and bytes of every kind.
func everyText() []string {
	texts := append(textsRead(), "", "a", "ab", "abcdabcddd", "S", "\n", "\x00", "\xff", "1 1\nS=aaaaa\n", "1 1\nS=a\nS=a\n",
		fullText()+fullLines(1), fullText()+"S=\n", strings.Repeat("a", 11), strings.Repeat("\n", 600), strings.Repeat("\xff", 601))
	bytes := make([]byte, 256)
	for b := range bytes {
		bytes[b] = byte(b)
		texts = append(texts, string(bytes[b:b+1]), "1 1\n"+string(bytes[b:b+1]), "1 1\nS="+string(bytes[b:b+1])+"\n")
	}
	return append(texts, string(bytes))
}

type textAnswers struct {
	Text, Word, Symbol                           string
	TextOk, WordOk, SymbolOk, ReadOk, ReadWordOk bool
	Code, Place, WordPlace                       int
	Read                                         impl.Grammar
	ReadWord                                     []int
}

func askTexts(g impl.Grammar, list []int, text string, number int) textAnswers {
	var a textAnswers
	a.Text, a.TextOk = impl.GrammarText(g)
	a.Word, a.WordOk = impl.WordText(g, list)
	a.Symbol, a.SymbolOk = impl.SymbolText(number)
	a.Read, a.Code, a.Place, a.ReadOk = impl.ReadGrammar(text)
	a.ReadWord, a.WordPlace, a.ReadWordOk = impl.ReadWord(g, text)
	return a
}

// sameTextAnswers takes nil and empty lists for the same.
func sameTextAnswers(a, b textAnswers) bool {
	if !sameParts(a.Read, b.Read) || !slices.Equal(a.ReadWord, b.ReadWord) {
		return false
	}
	a.Read, b.Read, a.ReadWord, b.ReadWord = impl.Grammar{}, impl.Grammar{}, nil, nil
	return reflect.DeepEqual(a, b)
}

func spoilTexts(t *testing.T, name string, a textAnswers) {
	t.Helper()
	checkApart(t, name+" ReadWord", [][]int{a.ReadWord})
	checkRulesApart(t, name+" ReadGrammar", a.Read)
}

// Promise 21.
func TestTextsNeitherChangeNorShareArguments(t *testing.T) {
	texts := append(textsRead(), "", "a", "aa", "ab?", strings.Repeat("a", 10), fullText()+fullLines(1))
	for name, plain := range everyGrammar() {
		for _, list := range everyList() {
			for _, text := range texts {
				g, l := roomyGrammar(plain), roomy(list)
				before, row := pictureOf(g), slices.Clone(whole(l))
				spoilTexts(t, name, askTexts(g, l, text, 0))
				if !reflect.DeepEqual(before, pictureOf(g)) {
					t.Fatal("a grammar was changed, or an answer shares its memory:", name)
				}
				if !slices.Equal(row, whole(l)) {
					t.Fatal("a list was changed:", name, list)
				}
			}
		}
	}
}

func TestTextsDoNotReadBehindALength(t *testing.T) {
	for name, plain := range everyGrammar() {
		for _, list := range everyList() {
			tight := askTexts(plain, list, "aa", 0)
			loose := askTexts(roomyGrammar(plain), roomy(list), "aa", 0)
			if !sameTextAnswers(tight, loose) {
				t.Fatal(name, list, tight, loose)
			}
		}
	}
}

func TestTextsKeepNothingFromCallToCall(t *testing.T) {
	g := grammar(2, 2, rule(0, 1, token(1)))
	for _, text := range everyText() {
		want := askTexts(g, []int{0, 1}, text, -2)
		spoilTexts(t, text, askTexts(g, []int{0, 1}, text, -2))
		impl.ReadGrammar("1 1\nS=?")
		impl.ReadGrammar(fullText())
		if !sameTextAnswers(want, askTexts(g, []int{0, 1}, text, -2)) {
			t.Errorf("another answer at the second call: %q", text)
		}
	}
}

func TestNoTextPanics(t *testing.T) {
	defer func() {
		if p := recover(); p != nil {
			t.Error("panic:", p)
		}
	}()
	texts := everyText()
	for _, g := range everyGrammar() {
		for i, text := range texts {
			askTexts(g, everyList()[i%len(everyList())], text, oddInts()[i%len(oddInts())])
		}
	}
	for _, x := range oddInts() {
		for _, y := range append(oddInts(), -1, 0, 1, 4, 5, 6, 7) {
			askTexts(grammar(x, y, rule(y, x, y)), []int{x, y}, fullText(), x)
			askTexts(grammar(y, x, rule(x, y, x)), []int{y}, "1 1\nS=\n", y)
		}
	}
}
