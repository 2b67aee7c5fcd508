package tests

import (
	"math"
	"reflect"
	"slices"
	"testing"

	"loop.example/g00758/impl"
)

// deriveArguments are what the functions of chapter 4 are asked, beside a grammar.
type deriveArguments struct {
	word, right, form, rules []int
	non, most, at, rule      int
}

func (a deriveArguments) lists() [][]int {
	return [][]int{a.word, a.right, a.form, a.rules}
}

// roomy gives the same arguments with numbers behind the lengths of the lists.
func (a deriveArguments) roomy() deriveArguments {
	a.word, a.right, a.form, a.rules = roomy(a.word), roomy(a.right), roomy(a.form), roomy(a.rules)
	return a
}

// picture copies the lists, also what is behind their lengths.
func (a deriveArguments) picture() [][]int {
	var picture [][]int
	for _, list := range a.lists() {
		picture = append(picture, []int{len(list)}, slices.Clone(whole(list)))
	}
	return picture
}

type deriveAnswers struct {
	told        []bool
	steps       [][]int
	spans, word [][]int
}

func askDerives(g impl.Grammar, a deriveArguments) deriveAnswers {
	derives, derivesOk := impl.Derives(g, a.non, a.word)
	in, inOk := impl.InLanguage(g, a.word)
	sequence, sequenceOk := impl.SequenceDerives(g, a.right, a.word)
	spans, spansOk := impl.SpansOf(g, a.word)
	words, wordsOk := impl.ShortWords(g, a.most)
	step, stepOk := impl.DeriveStep(g, a.form, a.at, a.rule)
	form, formOk := impl.RewritesTo(g, a.rules)
	told := []bool{derives, derivesOk, in, inOk, sequence, sequenceOk, spansOk, wordsOk, stepOk, formOk}
	return deriveAnswers{told, [][]int{step, form}, spans, words}
}

// sameDerives takes nil and empty lists for the same.
func sameDerives(a, b deriveAnswers) bool {
	same := func(x, y [][]int) bool { return slices.EqualFunc(x, y, slices.Equal[[]int]) }
	return slices.Equal(a.told, b.told) && same(a.steps, b.steps) && same(a.spans, b.spans) && same(a.word, b.word)
}

// spoilDerives writes into all lists of all answers, and then into the lists of lists.
func spoilDerives(t *testing.T, name string, a deriveAnswers) {
	t.Helper()
	checkApart(t, name, slices.Concat(a.steps, a.spans, a.word))
	for _, table := range [][][]int{a.spans, a.word} {
		for i, list := range whole(table) {
			if i >= len(table) && list != nil {
				t.Error(name, "hands out a list behind a length")
			}
			whole(table)[i] = []int{-77}
		}
	}
}

// everyDeriveArgument has arguments that fit many grammars, and those that fit none.
func everyDeriveArgument() []deriveArguments {
	all := []deriveArguments{
		{},
		{word: []int{}, right: []int{}, form: []int{0}, rules: []int{}, most: 4},
		{word: []int{0}, right: []int{0}, form: []int{0, token(0)}, rules: []int{0}, most: 1},
		{word: []int{0, 1}, right: []int{token(0), 0}, form: []int{token(0), 0, token(0)}, rules: []int{0, 1}, most: 3, at: 1},
		{word: []int{0, 0, 1, 1}, right: []int{0, 1, 0, 1}, form: []int{0, 1, 0}, rules: []int{0, 0, 1}, non: 1, most: 4, at: 2, rule: 2},
		{word: make([]int, 10), right: make([]int, 4), form: make([]int, 40), rules: make([]int, 60), most: 4, at: 39, rule: 1},
		{word: make([]int, 11), right: make([]int, 5), form: make([]int, 41), rules: make([]int, 61), most: 5, at: 40, rule: 16},
		{word: []int{-1}, right: []int{9}, form: []int{0, 9}, rules: []int{-1}, non: -1, most: -1, at: -1, rule: -1},
	}
	for _, list := range everyList() {
		all = append(all, deriveArguments{word: list, right: list, form: list, rules: list, most: 2})
	}
	return all
}

func everyDeriveGrammar() map[string]impl.Grammar {
	all := everyGrammar()
	for _, c := range deriveCases() {
		all["case "+c.name] = grammarOf(c.text)
	}
	return all
}

// Promise 21.
func TestDerivesNeitherChangesNorSharesArguments(t *testing.T) {
	for name, plain := range everyDeriveGrammar() {
		for _, arguments := range everyDeriveArgument() {
			g, a := roomyGrammar(plain), arguments.roomy()
			before, lists := pictureOf(g), a.picture()
			answers := askDerives(g, a)
			if !reflect.DeepEqual(before, pictureOf(g)) || !reflect.DeepEqual(lists, a.picture()) {
				t.Fatal("an argument was changed:", name, arguments)
			}
			spoilDerives(t, name, answers)
			if !reflect.DeepEqual(before, pictureOf(g)) || !reflect.DeepEqual(lists, a.picture()) {
				t.Fatal("an answer shares memory with an argument:", name, arguments)
			}
		}
	}
}

func TestDerivesDoesNotReadBehindALength(t *testing.T) {
	for name, g := range everyDeriveGrammar() {
		for _, a := range everyDeriveArgument() {
			if tight, loose := askDerives(g, a), askDerives(roomyGrammar(g), a.roomy()); !sameDerives(tight, loose) {
				t.Fatal(name, a, tight, loose)
			}
		}
	}
}

// What is behind a length must not show, though it would fit.
func TestDerivesDoesNotReadWhatFitsBehindALength(t *testing.T) {
	g := grammarOf("2 2;S=aA;A=bS;A=;S=")
	g.Rules = g.Rules[:3]
	g.Rules[1].Right = g.Rules[1].Right[:1]
	want := grammarOf("2 2;S=aA;A=b;A=")
	full := deriveArguments{word: []int{0, 1, 0}, right: []int{0, 1, token(1)}, form: []int{1, 0, 1}, rules: []int{0, 1, 2}, most: 4, rule: 1}
	for word := range 4 {
		for rest := range 4 {
			a := full
			a.word, a.right, a.form, a.rules = full.word[:word], full.right[:rest], full.form[:rest], full.rules[:rest]
			b := a
			b.word, b.right, b.form, b.rules = slices.Clone(a.word), slices.Clone(a.right), slices.Clone(a.form), slices.Clone(a.rules)
			if got, want := askDerives(g, a), askDerives(want, b); !sameDerives(got, want) {
				t.Error(a, got, want)
			}
		}
	}
}

func TestDerivesKeepsNothingFromCallToCall(t *testing.T) {
	for name, g := range everyDeriveGrammar() {
		for _, a := range everyDeriveArgument() {
			want := askDerives(g, a)
			spoilDerives(t, name, askDerives(g, a))
			if !sameDerives(want, askDerives(g, a)) {
				t.Fatal("another answer at a later call:", name, a)
			}
		}
	}
}

// One list may be several arguments, and the Rights of a grammar too.
func TestDerivesOfListsThatShareMemory(t *testing.T) {
	shared := []int{0, token(0), 0, 0}
	g := grammar(1, 1, rule(0), rule(0))
	g.Rules[0].Right, g.Rules[1].Right = shared[1:2], shared[:3]
	a := deriveArguments{word: shared[2:], right: shared, form: shared, rules: shared[:1], most: 4, at: 2, rule: 1}
	got := askDerives(g, a)
	want := deriveAnswers{
		[]bool{false, true, false, true, false, true, true, true, true, true},
		[][]int{{0, token(0), 0, token(0), 0, 0}, {token(0)}},
		[][]int{{0, 1, 0}, {1, 2, 0}},
		[][]int{{0}, {0, 0, 0}},
	}
	if !sameDerives(got, want) {
		t.Error(got, want)
	}
	spoilDerives(t, "shared", got)
	if !slices.Equal(shared, []int{0, token(0), 0, 0}) {
		t.Error("an argument was changed:", shared)
	}
}

func TestNoDerivesPanic(t *testing.T) {
	defer func() {
		if p := recover(); p != nil {
			t.Error("panic:", p)
		}
	}()
	numbers := append(oddInts(), -5, -4, -2, -1, 0, 1, 4, 5, 6, 7, 16, 40, 41)
	for _, g := range everyDeriveGrammar() {
		for _, a := range everyDeriveArgument() {
			for _, x := range numbers {
				a.non, a.most, a.at, a.rule = x, x, x, x
				askDerives(g, a)
			}
		}
	}
	for _, x := range numbers {
		for _, y := range numbers {
			for _, z := range numbers {
				list := []int{x, y, z}
				a := deriveArguments{list, list, list, list, x, y, z, x}
				askDerives(grammar(x, y, rule(z, z, x, y), rule(0)), a)
				askDerives(grammar(6, 4, rule(0, x), rule(x, y, z), rule(y), rule(z, x)), a)
				askDerives(grammarOf("6 4;S=aEdA;A=;E=SS;E=b"), a)
			}
		}
	}
	huge := deriveArguments{slices.Repeat([]int{math.MaxInt}, 9), slices.Repeat([]int{math.MinInt}, 4), slices.Repeat([]int{math.MinInt}, 40),
		slices.Repeat([]int{math.MaxInt}, 60), math.MaxInt, math.MaxInt, math.MinInt, math.MinInt}
	askDerives(grammar(6, 4), huge)
}
