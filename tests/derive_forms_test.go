package tests

import (
	"slices"
	"strings"
	"testing"

	"loop.example/g00758/impl"
)

func wantForm(t *testing.T, name string, got []int, ok bool, want string) {
	t.Helper()
	wantList(t, name, got, ok, symbolsOf(want)...)
}

// stepInText does a step in the letters of a form.
func stepInText(g impl.Grammar, form string, at, number int) (string, bool) {
	if len(form) > 40 || at < 0 || at >= len(form) || number < 0 || number >= len(g.Rules) {
		return "", false
	}
	r := g.Rules[number]
	if form[at] != nonLetters[r.Left] {
		return "", false
	}
	out := form[:at] + lettersOf(r.Right) + form[at+1:]
	return out, len(out) <= 40
}

// rewriteText does all steps, each at the first capital letter.
func rewriteText(g impl.Grammar, rules []int) (string, bool) {
	form, ok := "S", len(rules) <= 60
	for _, number := range rules {
		if !ok {
			return "", false
		}
		form, ok = stepInText(g, form, strings.IndexAny(form, nonLetters), number)
	}
	return form, ok
}

const stepText = "2 2;S=aSb;S=;A=SA;A=b;S=A;S=SASA"

func TestDeriveStepAtEachPlace(t *testing.T) {
	for _, c := range []struct {
		form     string
		at, rule int
		want     string
	}{
		{"S", 0, 0, "aSb"}, {"S", 0, 1, ""}, {"S", 0, 4, "A"}, {"S", 0, 5, "SASA"}, {"A", 0, 2, "SA"}, {"A", 0, 3, "b"},
		{"SaASbA", 0, 0, "aSbaASbA"}, {"SaASbA", 0, 1, "aASbA"}, {"SaASbA", 0, 4, "AaASbA"},
		{"SaASbA", 2, 2, "SaSASbA"}, {"SaASbA", 2, 3, "SabSbA"},
		{"SaASbA", 3, 0, "SaAaSbbA"}, {"SaASbA", 3, 1, "SaAbA"}, {"SaASbA", 3, 5, "SaASASAbA"},
		{"SaASbA", 5, 2, "SaASbSA"}, {"SaASbA", 5, 3, "SaASbb"},
		{"SSSS", 0, 0, "aSbSSS"}, {"SSSS", 1, 0, "SaSbSS"}, {"SSSS", 2, 0, "SSaSbS"}, {"SSSS", 3, 0, "SSSaSb"},
		{"SS", 0, 1, "S"}, {"SS", 1, 1, "S"}, {"aSb", 1, 1, "ab"}, {"aS", 1, 1, "a"}, {"Sb", 0, 1, "b"},
	} {
		form, ok := impl.DeriveStep(grammarOf(stepText), symbolsOf(c.form), c.at, c.rule)
		wantForm(t, c.form+" at "+numberText(c.at), form, ok, c.want)
	}
	form, ok := impl.DeriveStep(grammarOf("6 4;E=dEcE"), symbolsOf("aEbE"), 3, 0)
	wantForm(t, "last symbols", form, ok, "aEbdEcE")
}

// Each length of a form, each Right, and each place, around the limit.
func TestDeriveStepHoldsTheLimit(t *testing.T) {
	g := grammarOf("1 2;S=;S=a;S=Sb;S=aaa;S=abSa")
	told := tally{}
	for long := 1; long <= 45; long++ {
		for at := 0; at < long; at++ {
			form := strings.Repeat("b", at) + "S" + strings.Repeat("a", long-1-at)
			for number := range g.Rules {
				want, there := stepInText(g, form, at, number)
				got, ok := impl.DeriveStep(g, symbolsOf(form), at, number)
				if there {
					wantForm(t, form, got, ok, want)
				} else {
					wantNoList(t, form, got, ok)
				}
				told[there]++
			}
		}
	}
	told.wantBoth(t, 500)
}

func TestDeriveStepToJustForty(t *testing.T) {
	g := grammarOf("1 1;S=;S=S;S=aa;S=SSSS")
	for _, c := range []struct {
		long, rule, want int
	}{
		{37, 3, 40}, {38, 3, 0}, {39, 2, 40}, {40, 2, 0}, {40, 1, 40}, {40, 0, 39}, {41, 0, 0}, {41, 1, 0}, {40, 3, 0}, {1000, 0, 0},
	} {
		for _, at := range []int{0, 20, c.long - 1} {
			form, ok := impl.DeriveStep(g, make([]int, c.long), at, c.rule)
			if len(form) != c.want || ok != (c.want > 0) {
				t.Error(c.long, c.rule, at, form, ok)
			}
		}
	}
}

func TestDeriveStepOfNoSuchStep(t *testing.T) {
	g := grammarOf(stepText)
	none := func(name string, form []int, at, number int) {
		t.Helper()
		got, ok := impl.DeriveStep(g, form, at, number)
		wantNoList(t, name, got, ok)
	}
	form := symbolsOf("SaAb")
	none("another nonterminal", form, 0, 2)
	none("another nonterminal", form, 2, 0)
	none("another nonterminal, empty Right", form, 2, 1)
	for number := range g.Rules {
		none("a token", form, 1, number)
		none("a token", form, 3, number)
		none("no symbols", nil, 0, number)
		none("no symbols", []int{}, -1, number)
		for _, at := range append(oddInts(), -1, -2, 4, 5, 40) {
			none("place "+numberText(at), form, at, number)
		}
	}
	for _, number := range append(oddInts(), -1, 6, 7, 16) {
		for at := range form {
			none("rule "+numberText(number), form, at, number)
		}
	}
	for _, x := range append(oddInts(), 2, 3, 6, token(2), token(3), token(4)) {
		for at := range 4 {
			odd := symbolsOf("SSSS")
			odd[at] = x
			for place := range 4 {
				none("symbol "+numberText(x), odd, place, 1)
			}
		}
	}
	got, ok := impl.DeriveStep(grammar(1, 1), []int{0}, 0, 0)
	wantNoList(t, "no rules", got, ok)
}

func TestDeriveStepAsInText(t *testing.T) {
	p, told := picker{3}, tally{}
	for _, g := range append(pickedGrammars(400, 6, 17, 5), wideGrammars()...) {
		for range 40 {
			form := p.symbols(g, p.pick(43))
			at, number := p.pick(len(form)+2)-1, p.pick(len(g.Rules)+2)-1
			// So that more than a few of them fit:
			if p.pick(2) == 0 && at >= 0 && at < len(form) && number >= 0 && number < len(g.Rules) {
				form[at] = g.Rules[number].Left
			}
			want, there := stepInText(g, lettersOf(form), at, number)
			got, ok := impl.DeriveStep(g, form, at, number)
			if there {
				wantForm(t, lettersOf(form), got, ok, want)
			} else {
				wantNoList(t, lettersOf(form), got, ok)
			}
			told[there]++
		}
	}
	told.wantBoth(t, 3000)
}

func TestRewritesTo(t *testing.T) {
	const pairs, sums = "1 2;S=aSb;S=", "3 3;S=SaA;S=A;A=AbB;A=B;B=c"
	for _, c := range []struct {
		text  string
		rules []int
		want  string
	}{
		{pairs, nil, "S"}, {pairs, []int{}, "S"}, {"1 1", nil, "S"}, {"6 4;A=a", nil, "S"},
		{pairs, []int{0}, "aSb"}, {pairs, []int{1}, ""}, {pairs, []int{0, 1}, "ab"}, {pairs, []int{0, 0, 0, 1}, "aaabbb"},
		{sums, []int{0}, "SaA"}, {sums, []int{0, 1}, "AaA"}, {sums, []int{0, 1, 3}, "BaA"}, {sums, []int{0, 1, 3, 4}, "caA"},
		{sums, []int{0, 1, 3, 4, 2}, "caAbB"}, {sums, []int{0, 1, 3, 4, 2, 3, 4, 4}, "cacbc"},
		{"2 2;S=AS;A=a;S=;A=", []int{0, 1, 0, 3, 0}, "aAS"}, {"2 2;S=AS;A=a;S=;A=", []int{0, 3, 2}, ""},
		{"2 2;S=AS;A=a;S=;A=", []int{0, 1, 2}, "a"}, {"2 2;S=aaAS;S=b;A=bA;A=", []int{0, 2, 2, 3, 1}, "aabbb"},
		{"6 4;S=dE;E=cEd;E=", []int{0, 1, 1, 2}, "dccdd"},
	} {
		form, ok := impl.RewritesTo(grammarOf(c.text), c.rules)
		wantForm(t, c.text, form, ok, c.want)
	}
}

func TestRewritesToOfNoSuchRules(t *testing.T) {
	const two = "2 2;S=AS;A=a;S=;A="
	cases := map[string][][]int{
		"1 1":          {{0}, {-1}, {1}},
		"1 2;S=aSb;S=": {{1, 0}, {1, 1}, {0, 1, 0}, {0, 1, 1}, {2}, {0, 2}, {-1}, {0, -1, 1}},
		two: {{1}, {3}, {0, 0}, {0, 2}, {0, 1, 1}, {0, 1, 3}, {0, 1, 2, 0}, {0, 1, 2, 2}, {0, 3, 2, 0}, {0, 0, 1, 2}, {2, 1},
			{0, 1, 2, 4}, {0, 4}, {4}},
		"2 1;A=a": {{0}},
	}
	for text, lists := range cases {
		for _, rules := range lists {
			form, ok := impl.RewritesTo(grammarOf(text), rules)
			wantNoList(t, text, form, ok)
		}
	}
	for _, x := range oddInts() {
		for _, rules := range [][]int{{x}, {0, x}, {0, 1, x}, {x, 0, 1}, {0, 1, 2, x}} {
			form, ok := impl.RewritesTo(grammarOf(two), rules)
			wantNoList(t, "rule "+numberText(x), form, ok)
		}
	}
}

func TestRewritesToBySixtyRules(t *testing.T) {
	g := grammarOf("2 1;S=S;S=;S=AS;A=")
	for _, c := range []struct {
		rules []int
		want  string
	}{
		{make([]int, 59), "S"}, {make([]int, 60), "S"}, {append(make([]int, 59), 1), ""}, {append(make([]int, 59), 2), "AS"},
		{slices.Repeat([]int{2, 3}, 30), "S"}, {append(slices.Repeat([]int{2, 3, 0}, 19), 2, 3, 1), ""},
	} {
		form, ok := impl.RewritesTo(g, c.rules)
		wantForm(t, "most rules", form, ok, c.want)
	}
	for _, rules := range [][]int{
		make([]int, 61), append(make([]int, 60), 1), append(make([]int, 61), 1), append(slices.Repeat([]int{2, 3}, 30), 0), make([]int, 100000),
	} {
		form, ok := impl.RewritesTo(g, rules)
		wantNoList(t, "more rules", form, ok)
	}
}

func TestRewritesToByFormsOfForty(t *testing.T) {
	ahead := grammarOf("1 2;S=aS;S=;S=b;S=aaS")
	form, ok := impl.RewritesTo(ahead, make([]int, 39))
	wantForm(t, "just forty", form, ok, strings.Repeat("a", 39)+"S")
	form, ok = impl.RewritesTo(ahead, append(make([]int, 39), 1))
	wantForm(t, "forty on the way", form, ok, strings.Repeat("a", 39))
	form, ok = impl.RewritesTo(ahead, append(make([]int, 39), 2))
	wantForm(t, "forty to the end", form, ok, strings.Repeat("a", 39)+"b")
	for _, rest := range [][]int{{0}, {3}, {0, 1}, {0, 2}, {3, 1}, {0, 0, 0, 1}} {
		form, ok = impl.RewritesTo(ahead, append(make([]int, 39), rest...))
		wantNoList(t, "one more", form, ok)
	}
	// Each of twelve steps puts four in place of one: four and thirty-six are forty.
	wide := grammarOf("2 1;S=AAAA;A=AAAA;A=;A=AA;A=A;A=a")
	forty := append([]int{0}, slices.Repeat([]int{1}, 12)...)
	for _, c := range []struct {
		rest []int
		want string
	}{
		{nil, strings.Repeat("A", 40)}, {[]int{2}, strings.Repeat("A", 39)}, {[]int{4}, strings.Repeat("A", 40)},
		{slices.Repeat([]int{2}, 40), ""}, {slices.Repeat([]int{5}, 40), strings.Repeat("a", 40)},
		{[]int{2, 3, 2, 2, 3, 3}, strings.Repeat("A", 40)}, {[]int{2, 2, 2, 1}, strings.Repeat("A", 40)},
	} {
		form, ok = impl.RewritesTo(wide, slices.Concat(forty, c.rest))
		wantForm(t, "forty", form, ok, c.want)
	}
	for _, rest := range [][]int{{3}, {3, 2}, {3, 2, 2}, {1}, {1, 2, 2, 2}, {2, 1}, {2, 2, 1, 2}, {2, 3, 3}, slices.Repeat([]int{3, 2}, 20)} {
		form, ok = impl.RewritesTo(wide, slices.Concat(forty, rest))
		wantNoList(t, "more than forty on the way", form, ok)
	}
}

// wantRewritten holds an answer against the one in text and, where tokens alone
// are left that are a word, against InLanguage: promise 4. It tells whether they are.
func wantRewritten(t *testing.T, g impl.Grammar, rules []int) bool {
	t.Helper()
	want, there := rewriteText(g, rules)
	form, ok := impl.RewritesTo(g, rules)
	if ok != there || ok && lettersOf(form) != want || !ok && len(form) > 0 {
		t.Fatal(g, rules, form, ok, want, there)
	}
	if !ok || len(form) > 10 || strings.ContainsAny(want, nonLetters) {
		return false
	}
	if is, told := impl.InLanguage(g, wordOf(want)); !is || !told {
		t.Fatal("derived, and no word of the language:", g, rules, want, is, told)
	}
	return true
}

// Promise 4, by all lists of at most five rules.
func TestLeftmostDerivationsYieldWordsOfSmallGrammars(t *testing.T) {
	words := tally{}
	for _, g := range smallGrammars() {
		for _, rules := range wordsUpTo(len(g.Rules), 5) {
			words[wantRewritten(t, g, rules)]++
		}
	}
	words.wantBoth(t, 1000)
}

// pickedSteps goes on, where it can, until no nonterminal is left; at times it
// ends early, or takes a rule that may not fit.
func pickedSteps(p *picker, g impl.Grammar) []int {
	var rules []int
	form := "S"
	for len(rules) < 62 && p.pick(40) > 0 {
		at := strings.IndexAny(form, nonLetters)
		if at < 0 {
			break
		}
		var fit []int
		for number, r := range g.Rules {
			if nonLetters[r.Left] == form[at] {
				fit = append(fit, number)
			}
		}
		if len(fit) == 0 || p.pick(60) == 0 {
			return append(rules, p.pick(len(g.Rules)+1))
		}
		number := fit[p.pick(len(fit))]
		form = form[:at] + lettersOf(g.Rules[number].Right) + form[at+1:]
		rules = append(rules, number)
	}
	return rules
}

// Promise 4, by derivations as long as they may be.
func TestLeftmostDerivationsYieldWords(t *testing.T) {
	p, words, long := picker{5}, tally{}, 0
	all := append(pickedGrammars(600, 6, 17, 4), wideGrammars()...)
	for _, g := range append(all, longGrammars()...) {
		for range 40 {
			rules := pickedSteps(&p, g)
			is := wantRewritten(t, g, rules)
			words[is]++
			if is && len(rules) > 10 {
				long++
			}
		}
	}
	words.wantBoth(t, 3000)
	if long < 100 {
		t.Error("too few long derivations to tell:", long)
	}
}

// RewritesTo is DeriveStep at the first nonterminal, again and again.
func TestRewritesToIsStepByStep(t *testing.T) {
	p := picker{9}
	for _, g := range append(pickedGrammars(200, 6, 17, 4), wideGrammars()...) {
		for range 10 {
			rules := pickedSteps(&p, g)
			form, ok := []int{0}, len(rules) <= 60
			for at := 0; ok && at < len(rules); at++ {
				place := slices.IndexFunc(form, func(x int) bool { return x >= 0 })
				form, ok = impl.DeriveStep(g, form, place, rules[at])
			}
			got, told := impl.RewritesTo(g, rules)
			if ok {
				wantList(t, "steps", got, told, form...)
			} else {
				wantNoList(t, "steps", got, told)
			}
		}
	}
}
