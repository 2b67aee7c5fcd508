package tests

import (
	"reflect"
	"slices"
	"testing"

	"loop.example/g00758/impl"
)

// propsAnswers are what every function of chapter 3 tells of the same grammar.
type propsAnswers struct {
	Nullable, Productive, Reached, Growing         []int
	NullableOk, ProductiveOk, ReachedOk, GrowingOk bool
	Useful                                         impl.Grammar
	UsefulOk                                       bool
	IsUseful, IsUsefulOk, Finite, FiniteOk         bool
	Least                                          int
	LeastOk                                        bool
}

func askProps(g impl.Grammar) propsAnswers {
	var a propsAnswers
	a.Nullable, a.NullableOk = impl.NullableOf(g)
	a.Productive, a.ProductiveOk = impl.ProductiveOf(g)
	a.Reached, a.ReachedOk = impl.ReachedOf(g)
	a.Growing, a.GrowingOk = impl.GrowingOf(g)
	a.Useful, a.UsefulOk = impl.UsefulOf(g)
	a.IsUseful, a.IsUsefulOk = impl.IsUseful(g)
	a.Finite, a.FiniteOk = impl.IsFinite(g)
	a.Least, a.LeastOk = impl.LeastLong(g)
	return a
}

func (a propsAnswers) lists() [][]int {
	return [][]int{a.Nullable, a.Productive, a.Reached, a.Growing}
}

// sameProps takes nil and empty lists for the same.
func sameProps(a, b propsAnswers) bool {
	if !sameParts(a.Useful, b.Useful) || !slices.EqualFunc(a.lists(), b.lists(), slices.Equal[[]int]) {
		return false
	}
	for _, x := range []*propsAnswers{&a, &b} {
		x.Nullable, x.Productive, x.Reached, x.Growing, x.Useful = nil, nil, nil, nil, impl.Grammar{}
	}
	return reflect.DeepEqual(a, b)
}

func spoilProps(t *testing.T, name string, a propsAnswers) {
	t.Helper()
	checkApart(t, name+" lists", a.lists())
	checkRulesApart(t, name+" UsefulOf", a.Useful)
}

func everyPropsGrammar() map[string]impl.Grammar {
	all := everyGrammar()
	for _, c := range propsCases() {
		all["case "+c.name] = c.grammar()
	}
	return all
}

// Promise 21.
func TestPropsNeitherChangeNorShareArguments(t *testing.T) {
	for name, plain := range everyPropsGrammar() {
		g := roomyGrammar(plain)
		before := pictureOf(g)
		a := askProps(g)
		if !reflect.DeepEqual(before, pictureOf(g)) {
			t.Fatal("a grammar was changed:", name)
		}
		spoilProps(t, name, a)
		if !reflect.DeepEqual(before, pictureOf(g)) {
			t.Fatal("an answer shares memory with a grammar:", name)
		}
	}
}

func TestPropsDoNotReadBehindALength(t *testing.T) {
	for name, plain := range everyPropsGrammar() {
		if tight, loose := askProps(plain), askProps(roomyGrammar(plain)); !sameProps(tight, loose) {
			t.Error(name, tight, loose)
		}
	}
}

// What a rule behind the length would add must not show, though it is a good one.
func TestPropsDoNotReadGoodRulesBehindALength(t *testing.T) {
	g := grammarOf("2 1;S=A;A=a;A=aA;S=")
	g.Rules = g.Rules[:1]
	if a, b := askProps(g), askProps(grammarOf("2 1;S=A")); !sameProps(a, b) {
		t.Error(a, b)
	}
	g.Rules[0].Right = []int{0, token(0)}[:0]
	if a, b := askProps(g), askProps(grammarOf("2 1;S=")); !sameProps(a, b) {
		t.Error(a, b)
	}
}

// Many calls, because what comes of a map's order shows at some of them only.
func TestPropsKeepNothingFromCallToCall(t *testing.T) {
	for name, g := range everyPropsGrammar() {
		want := askProps(g)
		for i := 0; i < 20; i++ {
			spoilProps(t, name, askProps(g))
			if !sameProps(want, askProps(g)) {
				t.Fatal("another answer at a later call:", name)
			}
		}
	}
}

func TestPropsOfListsThatShareMemory(t *testing.T) {
	shared := []int{token(0), 1, token(0), 1}
	g := grammar(2, 1, rule(0), rule(0), rule(1), rule(1))
	g.Rules[0].Right, g.Rules[1].Right = shared[:2], shared[1:3]
	g.Rules[2].Right, g.Rules[3].Right = shared[:1], shared[:2]
	want := askProps(grammarOf("2 1;S=aA;S=Aa;A=a;A=aA"))
	got := askProps(g)
	if !sameProps(got, want) || !got.UsefulOk || !got.IsUseful {
		t.Error(got, want)
	}
	spoilProps(t, "shared", got)
	if !slices.Equal(shared, []int{token(0), 1, token(0), 1}) {
		t.Error("an argument was changed:", shared)
	}
}

func TestNoPropsPanic(t *testing.T) {
	defer func() {
		if p := recover(); p != nil {
			t.Error("panic:", p)
		}
	}()
	for _, g := range everyPropsGrammar() {
		askProps(g)
	}
	numbers := append(oddInts(), -5, -4, -1, 0, 1, 4, 5, 6, 7)
	for _, x := range numbers {
		for _, y := range numbers {
			for _, z := range numbers {
				askProps(grammar(x, y, rule(z, z, x, y), rule(0)))
				askProps(grammar(6, 4, rule(0, x), rule(x, y, z), rule(y), rule(z, x)))
			}
		}
	}
}
