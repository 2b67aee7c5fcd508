package tests

import (
	"math"
	"reflect"
	"slices"
	"testing"

	"loop.example/g00758/impl"
)

// countArguments are what the functions of chapter 10 are asked.
type countArguments struct {
	g    impl.Grammar
	w    []int
	most int
}

func (a countArguments) roomy() countArguments {
	return countArguments{roomyGrammar(a.g), roomy(a.w), a.most}
}

func (a countArguments) picture() lists {
	return append(pictureOf(a.g), []int{len(a.w)}, slices.Clone(whole(a.w)))
}

type countAnswers struct {
	told         []bool
	numbers      []int
	sizes, short []int
}

func askCounts(a countArguments) countAnswers {
	trees, code, treesOk := impl.CountTrees(a.g, a.w)
	sizes, sizesOk := impl.CountSized(a.g, a.w, a.most)
	is, isOk := impl.IsAmbiguous(a.g, a.w)
	short, shortOk := impl.ShortAmbiguous(a.g, a.most)
	least, leastOk := impl.LeastSize(a.g, a.w)
	told := []bool{treesOk, sizesOk, is, isOk, shortOk, leastOk}
	return countAnswers{told, []int{trees, code, least}, sizes, short}
}

func sameCounts(a, b countAnswers) bool {
	return slices.Equal(a.told, b.told) && sameLists(lists{a.numbers, a.sizes, a.short}, lists{b.numbers, b.sizes, b.short})
}

func spoilCounts(t *testing.T, name string, a countAnswers) {
	t.Helper()
	if slices.ContainsFunc(whole(a.sizes)[len(a.sizes):], func(count int) bool { return count != 0 }) {
		t.Error(name, "has sizes behind the length", whole(a.sizes))
	}
	checkApart(t, name, lists{a.sizes, a.short})
}

// eachCountArgument has arguments that fit each other, and those that do not.
func eachCountArgument(ask func(name string, a countArguments)) {
	for name, g := range everyGrammar() {
		for n, w := range append(everyList(), wordOf("abab")) {
			ask(name, countArguments{g, w, n - 1})
		}
	}
	for n, c := range countCases() {
		ask(c.name(), countArguments{c.grammar(), wordOf(c.word), n % 6})
		ask(c.name(), countArguments{c.grammar(), wordOf(c.word), 20})
	}
	for _, c := range shortCases() {
		for most := range 5 {
			ask(c.text, countArguments{grammarOf(c.text), make([]int, most), most})
		}
	}
	for _, text := range []string{mostEdges, mostEdges + ";S=aab"} {
		ask(text, countArguments{grammarOf(text), wordOf(mostEdgesWord), 4})
	}
}

// Promise 21.
func TestCountsNeitherChangeNorShareArguments(t *testing.T) {
	eachCountArgument(func(name string, plain countArguments) {
		a := plain.roomy()
		before := a.picture()
		answers := askCounts(a)
		if !reflect.DeepEqual(before, a.picture()) {
			t.Fatal("an argument was changed:", name, plain)
		}
		spoilCounts(t, name, answers)
		if !reflect.DeepEqual(before, a.picture()) {
			t.Fatal("an answer shares memory with an argument:", name, plain)
		}
	})
}

func TestCountsDoNotReadBehindALength(t *testing.T) {
	eachCountArgument(func(name string, a countArguments) {
		if tight, loose := askCounts(a), askCounts(a.roomy()); !sameCounts(tight, loose) {
			t.Fatal(name, a, tight, loose)
		}
	})
}

// What is behind a length must not show, though it would fit.
func TestCountsDoNotReadWhatFitsBehindALength(t *testing.T) {
	full, word := grammarOf("1 1;S=SS;S=aS;S=a;S="), make([]int, 4)
	for rules := range 5 {
		for right := range 3 {
			for long := range 5 {
				cut, tight := full, impl.Grammar{Nons: 1, Toks: 1}
				cut.Rules = slices.Clone(full.Rules[:rules])
				for at, r := range cut.Rules {
					cut.Rules[at].Right = r.Right[:min(right, len(r.Right))]
					tight.Rules = append(tight.Rules, impl.Rule{Right: slices.Clip(slices.Clone(cut.Rules[at].Right))})
				}
				tight.Rules = slices.Clip(tight.Rules)
				cut.Rules = append(cut.Rules, rule(0), rule(0, 0))[:rules]
				got := askCounts(countArguments{cut, word[:long], 4})
				want := askCounts(countArguments{tight, slices.Clip(slices.Clone(word[:long])), 4})
				if !sameCounts(got, want) || got.told[0] != impl.GoodGrammar(tight) {
					t.Error(rules, right, long, got, want)
				}
			}
		}
	}
}

func TestCountsKeepNothingFromCallToCall(t *testing.T) {
	eachCountArgument(func(name string, a countArguments) {
		want := askCounts(a)
		for range 2 {
			spoilCounts(t, name, askCounts(a))
			if !sameCounts(want, askCounts(a)) {
				t.Fatal("another answer at a later call:", name, a)
			}
		}
	})
	p := picker{149}
	for _, g := range pickedGrammars(100, 6, 17, 5) {
		a := countArguments{g, p.word(g.Toks, 4), 4}
		want := askCounts(a)
		for range 20 {
			if !sameCounts(want, askCounts(a)) {
				t.Fatal("another answer at a later call:", a)
			}
		}
	}
}

// Lists of an argument may share memory; those of an answer may not.
func TestCountsOfListsThatShareMemory(t *testing.T) {
	numbers := []int{0, 0, 0, token(0)}
	g := grammar(1, 1, rule(0), rule(0))
	g.Rules[0].Right, g.Rules[1].Right = numbers[:2], numbers[3:]
	got := askCounts(countArguments{g, numbers[:3], 4})
	want := countAnswers{
		told: []bool{true, true, true, true, true, true}, numbers: []int{2, impl.CtSome, 5},
		sizes: []int{0, 0, 0, 0, 0}, short: []int{0, 0, 0},
	}
	if !sameCounts(got, want) {
		t.Error(got, want)
	}
	spoilCounts(t, "shared", got)
	if !slices.Equal(numbers, []int{0, 0, 0, token(0)}) {
		t.Error("an argument was changed:", numbers)
	}
}

func TestNoCountPanics(t *testing.T) {
	defer func() {
		if p := recover(); p != nil {
			t.Error("panic:", p)
		}
	}()
	numbers := append(oddInts(), -2, -1, 0, 1, 2, 4, 5, 10, 11, 20, 21)
	for _, x := range numbers {
		for _, y := range numbers {
			for _, z := range numbers {
				list := []int{x, y, z}
				askCounts(countArguments{grammar(x, y, rule(z, z, x, y), rule(0)), list, x})
				askCounts(countArguments{grammar(6, 4, rule(0, x), rule(x, y, z), rule(y), rule(z, x)), list[:2], y})
				askCounts(countArguments{grammarOf("2 1;S=AA;S=A;A=;A=a"), list[:1], z})
			}
		}
	}
	for _, long := range []int{0, 9, 10, 11, 100000} {
		huge := slices.Repeat([]int{math.MaxInt}, long)
		askCounts(countArguments{grammarOf(pairsText), huge, math.MaxInt})
		askCounts(countArguments{grammar(1, 1, impl.Rule{Left: math.MinInt, Right: huge}), huge, math.MinInt})
	}
}
