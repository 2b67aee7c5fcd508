package tests

import (
	"math"
	"slices"
	"testing"

	"loop.example/g00758/impl"
)

func TestLimitsAreTheDocuments(t *testing.T) {
	got := []int{impl.MaxNon, impl.MaxTok, impl.MaxRules, impl.MaxRight, impl.MaxWord}
	if !slices.Equal(got, []int{6, 4, 16, 4, 10}) {
		t.Error("limits", got)
	}
}

func TestGoodGrammar(t *testing.T) {
	for name, g := range goodGrammars() {
		if !impl.GoodGrammar(g) {
			t.Error("not good:", name)
		}
	}
	for name, g := range badGrammars() {
		if impl.GoodGrammar(g) {
			t.Error("good:", name)
		}
	}
}

func TestGoodGrammarAtEachCount(t *testing.T) {
	for n := -2; n <= 20; n++ {
		if got := impl.GoodGrammar(grammar(n, 1, rule(0))); got != (n >= 1 && n <= 6) {
			t.Error("Nons", n, got)
		}
		if got := impl.GoodGrammar(grammar(1, n, rule(0))); got != (n >= 1 && n <= 4) {
			t.Error("Toks", n, got)
		}
	}
	for n := 0; n <= 20; n++ {
		if got := impl.GoodGrammar(grammar(2, 2, distinctRules(n)...)); got != (n <= 16) {
			t.Error("rules", n, got)
		}
		if got := impl.GoodGrammar(grammar(1, 1, rule(0, make([]int, n)...))); got != (n <= 4) {
			t.Error("Right", n, got)
		}
	}
}

func TestGoodGrammarAtEachSymbol(t *testing.T) {
	for nons := 1; nons <= 6; nons++ {
		for toks := 1; toks <= 4; toks++ {
			for x := -8; x <= 8; x++ {
				isNon, isTok := x >= 0 && x < nons, x <= -1 && x >= -toks
				if got := impl.GoodGrammar(grammar(nons, toks, rule(0, x))); got != (isNon || isTok) {
					t.Error("symbol", nons, toks, x, got)
				}
				if got := impl.GoodGrammar(grammar(nons, toks, rule(x))); got != isNon {
					t.Error("Left", nons, toks, x, got)
				}
			}
		}
	}
}

func TestGoodGrammarLooksAtEachPlace(t *testing.T) {
	for at := 0; at < 4; at++ {
		right := []int{0, token(0), 1, token(1)}
		right[at] = 2
		if impl.GoodGrammar(grammar(2, 2, rule(0, right...))) {
			t.Error("wrong symbol not seen at", at)
		}
	}
	for at := 0; at < 16; at++ {
		rules := distinctRules(16)
		rules[at] = rule(0, token(2))
		if impl.GoodGrammar(grammar(2, 2, rules...)) {
			t.Error("wrong rule not seen at", at)
		}
		for other := 0; other < at; other++ {
			rules = distinctRules(16)
			rules[at] = rule(rules[other].Left, slices.Clone(rules[other].Right)...)
			if impl.GoodGrammar(grammar(2, 2, rules...)) {
				t.Error("same rules not seen at", other, at)
			}
		}
	}
}

func TestGoodWord(t *testing.T) {
	g := goodGrammars()["sums"]
	for _, w := range [][]int{nil, {}, {0}, {2}, {2, 0, 2, 1, 2}, make([]int, 10), {2, 2, 2, 2, 2, 2, 2, 2, 2, 2}} {
		if !impl.GoodWord(g, w) {
			t.Error("not good:", w)
		}
	}
	for _, w := range [][]int{{3}, {-1}, {0, 1, 3}, {-3, 0}, make([]int, 11), make([]int, 100000), {0, 0, 0, 0, 0, 0, 0, 0, 0, 3}} {
		if impl.GoodWord(g, w) {
			t.Error("good:", w)
		}
	}
	for _, x := range oddInts() {
		if impl.GoodWord(g, []int{x}) || impl.GoodWord(g, []int{0, x, 0}) {
			t.Error("good:", x)
		}
	}
	for n := 0; n <= 12; n++ {
		if got := impl.GoodWord(g, make([]int, n)); got != (n <= 10) {
			t.Error("length", n, got)
		}
	}
}

func TestGoodWordFollowsToks(t *testing.T) {
	for toks := 1; toks <= 4; toks++ {
		for x := -6; x <= 6; x++ {
			if got := impl.GoodWord(grammar(6, toks), []int{x}); got != (x >= 0 && x < toks) {
				t.Error(toks, x, got)
			}
		}
	}
}

func TestRulesOf(t *testing.T) {
	g := goodGrammars()["empty middle"]
	l, ok := impl.RulesOf(g, 0)
	wantList(t, "first nonterminal", l, ok, 0, 2)
	l, ok = impl.RulesOf(g, 1)
	wantList(t, "last nonterminal", l, ok, 1, 3)
	l, ok = impl.RulesOf(goodGrammars()["most Nons"], 5)
	wantList(t, "nonterminal 5", l, ok, 0)
	l, ok = impl.RulesOf(goodGrammars()["most Nons"], 3)
	wantList(t, "nonterminal without a rule", l, ok)
	l, ok = impl.RulesOf(grammar(6, 4), 5)
	wantList(t, "no rules", l, ok)
	l, ok = impl.RulesOf(goodGrammars()["most rules"], 1)
	wantList(t, "most rules", l, ok, 1, 3, 5, 7, 9, 11, 13, 15)
	for _, non := range append(oddInts(), -1, -2, 2, 6) {
		l, ok = impl.RulesOf(g, non)
		wantNoList(t, "nonterminal "+numberText(non), l, ok)
	}
}

func TestSizeOf(t *testing.T) {
	want := map[string]int{
		"pairs": 5, "sums": 14, "no rules": 0, "nil rules": 0, "empty rules": 0, "empty middle": 7, "only empty": 1,
		"unit round": 4, "same rights": 4, "same lefts": 5, "most Nons": 5, "most Toks": 6, "most rules": 64,
		"longest Right": 7, "all at most": 65,
	}
	for name, g := range goodGrammars() {
		if n, ok := impl.SizeOf(g); n != want[name] || !ok {
			t.Error(name, n, ok)
		}
	}
}

func TestSameGrammar(t *testing.T) {
	one, other := goodGrammars(), goodGrammars()
	for name, g := range one {
		if !impl.SameGrammar(g, g) || !impl.SameGrammar(g, other[name]) {
			t.Error("not the same as itself:", name)
		}
		for name2, h := range other {
			if got := impl.SameGrammar(g, h); got != sameParts(g, h) {
				t.Error(name, name2, got)
			}
		}
	}
	if !impl.SameGrammar(one["nil rules"], one["empty rules"]) {
		t.Error("nil and empty Rules")
	}
	if !impl.SameGrammar(grammar(1, 1, impl.Rule{Right: nil}), grammar(1, 1, impl.Rule{Right: []int{}})) {
		t.Error("nil and empty Right")
	}
}

func TestSameGrammarSeesEachChange(t *testing.T) {
	g := grammar(3, 2, rule(0, 1, token(0)), rule(1), rule(2, 2))
	changed := []impl.Grammar{
		grammar(4, 2, rule(0, 1, token(0)), rule(1), rule(2, 2)),
		grammar(3, 3, rule(0, 1, token(0)), rule(1), rule(2, 2)),
		grammar(3, 2, rule(1, 1, token(0)), rule(1), rule(2, 2)),
		grammar(3, 2, rule(0, 1, token(1)), rule(1), rule(2, 2)),
		grammar(3, 2, rule(0, 1, token(0), 0), rule(1), rule(2, 2)),
		grammar(3, 2, rule(0, 1), rule(1), rule(2, 2)),
		grammar(3, 2, rule(0, token(0), 1), rule(1), rule(2, 2)),
		grammar(3, 2, rule(0, 1, token(0)), rule(1), rule(2, 1)),
		grammar(3, 2, rule(0, 1, token(0)), rule(2), rule(2, 2)),
		grammar(3, 2, rule(1), rule(0, 1, token(0)), rule(2, 2)),
		grammar(3, 2, rule(0, 1, token(0)), rule(1)),
		grammar(3, 2, rule(0, 1, token(0)), rule(1), rule(2, 2), rule(2)),
		grammar(3, 2),
	}
	for i, h := range changed {
		if impl.SameGrammar(g, h) || impl.SameGrammar(h, g) {
			t.Error("change not seen:", i)
		}
	}
}

func TestReverseOf(t *testing.T) {
	g := grammar(3, 3, rule(0, 0, token(0), 1, 2), rule(2), rule(1, token(1), token(2)), rule(1, 2), rule(2, 0, 1, token(0)))
	want := grammar(3, 3, rule(0, 2, 1, token(0), 0), rule(2), rule(1, token(2), token(1)), rule(1, 2), rule(2, token(0), 1, 0))
	r, ok := impl.ReverseOf(g)
	wantGrammar(t, "ordinary", r, ok, want)
	for name, g := range goodGrammars() {
		r, ok := impl.ReverseOf(g)
		if !ok || !impl.GoodGrammar(r) {
			t.Error("the reversed one is not good:", name)
		}
		back, ok := impl.ReverseOf(r)
		wantGrammar(t, name+" twice", back, ok, g)
	}
	r, ok = impl.ReverseOf(grammar(6, 4))
	wantGrammar(t, "no rules", r, ok, grammar(6, 4))
}

func TestRenameNons(t *testing.T) {
	g := grammar(4, 2, rule(0, 1, token(1), 2, 3), rule(3), rule(1, 0, 1), rule(2, token(0), 3), rule(2))
	r, ok := impl.RenameNons(g, []int{0, 2, 3, 1})
	wantGrammar(t, "round", r, ok, grammar(4, 2, rule(0, 2, token(1), 3, 1), rule(1), rule(2, 0, 2), rule(3, token(0), 1), rule(3)))
	r, ok = impl.RenameNons(g, []int{0, 1, 2, 3})
	wantGrammar(t, "no change", r, ok, g)
	back, ok := impl.RenameNons(grammar(4, 2, rule(0, 2, token(1), 3, 1), rule(1), rule(2, 0, 2), rule(3, token(0), 1), rule(3)), []int{0, 3, 1, 2})
	wantGrammar(t, "back again", back, ok, g)
	r, ok = impl.RenameNons(goodGrammars()["pairs"], []int{0})
	wantGrammar(t, "one nonterminal", r, ok, goodGrammars()["pairs"])
	r, ok = impl.RenameNons(grammar(6, 4, rule(5, 4, 3, 2, 1)), []int{0, 5, 4, 3, 2, 1})
	wantGrammar(t, "most Nons", r, ok, grammar(6, 4, rule(1, 2, 3, 4, 5)))
	r, ok = impl.RenameNons(grammar(2, 1), []int{0, 1})
	wantGrammar(t, "no rules", r, ok, grammar(2, 1))
}

func TestRenameNonsOfNoSuchList(t *testing.T) {
	g := grammar(3, 1, rule(0, 1, 2), rule(1), rule(2, token(0)))
	lists := [][]int{
		nil, {}, {0}, {0, 1}, {0, 1, 2, 3}, {0, 2, 1, 0}, {0, 1, 1}, {0, 2, 2}, {0, 0, 1}, {0, 0, 0}, {0, 1, 0},
		{1, 0, 2}, {2, 1, 0}, {1, 2, 0}, {0, 1, 3}, {0, 3, 2}, {0, -1, 2}, {-1, 1, 2}, make([]int, 100000),
	}
	for _, x := range oddInts() {
		lists = append(lists, []int{0, 1, x}, []int{x, 1, 2}, []int{0, x, 2}, []int{x, x, x})
	}
	for _, to := range lists {
		r, ok := impl.RenameNons(g, to)
		wantNoGrammar(t, "list", r, ok)
	}
	r, ok := impl.RenameNons(grammar(1, 1), []int{1})
	wantNoGrammar(t, "one nonterminal, not 0", r, ok)
}

func TestWithoutRule(t *testing.T) {
	g := goodGrammars()["empty middle"]
	r, ok := impl.WithoutRule(g, 0)
	wantGrammar(t, "first", r, ok, grammar(2, 1, rule(1), rule(0), rule(1, token(0))))
	r, ok = impl.WithoutRule(g, 2)
	wantGrammar(t, "middle", r, ok, grammar(2, 1, rule(0, 1, 1), rule(1), rule(1, token(0))))
	r, ok = impl.WithoutRule(g, 3)
	wantGrammar(t, "last", r, ok, grammar(2, 1, rule(0, 1, 1), rule(1), rule(0)))
	r, ok = impl.WithoutRule(goodGrammars()["only empty"], 0)
	wantGrammar(t, "the only one", r, ok, grammar(1, 1))
	r, ok = impl.WithoutRule(goodGrammars()["most rules"], 15)
	wantGrammar(t, "number 15", r, ok, grammar(2, 2, distinctRules(15)...))
	for _, n := range append(oddInts(), -1, 4, 5) {
		r, ok = impl.WithoutRule(g, n)
		wantNoGrammar(t, "rule "+numberText(n), r, ok)
	}
	r, ok = impl.WithoutRule(grammar(1, 1), 0)
	wantNoGrammar(t, "no rules", r, ok)
}

func TestBadGrammarsHaveTheZeroAnswer(t *testing.T) {
	good := goodGrammars()["pairs"]
	for name, g := range badGrammars() {
		if impl.GoodWord(g, nil) || impl.GoodWord(g, []int{0}) {
			t.Error("GoodWord", name)
		}
		if impl.SameGrammar(g, g) || impl.SameGrammar(g, good) || impl.SameGrammar(good, g) {
			t.Error("SameGrammar", name)
		}
		if n, ok := impl.SizeOf(g); n != 0 || ok {
			t.Error("SizeOf", name, n, ok)
		}
		r, ok := impl.ReverseOf(g)
		wantNoGrammar(t, "ReverseOf "+name, r, ok)
		for _, x := range append(oddInts(), -1, 0, 1) {
			l, ok := impl.RulesOf(g, x)
			wantNoList(t, "RulesOf "+name, l, ok)
			r, ok = impl.WithoutRule(g, x)
			wantNoGrammar(t, "WithoutRule "+name, r, ok)
		}
		for _, to := range [][]int{nil, {0}, {0, 1}, {0, 1, 2, 3, 4, 5}, {0, 1, 2, 3, 4, 5, 6}, {math.MinInt}} {
			r, ok = impl.RenameNons(g, to)
			wantNoGrammar(t, "RenameNons "+name, r, ok)
		}
	}
}
