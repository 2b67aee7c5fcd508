package tests

import (
	"math"
	"reflect"
	"slices"
	"testing"

	"loop.example/g00758/impl"
)

// spare fills the memory behind a list's length: no answer may show it.
const spare = 987654321

func roomy(list []int) []int {
	out := append(slices.Clone(list), spare, spare, spare)
	return out[:len(list)]
}

func roomyGrammar(g impl.Grammar) impl.Grammar {
	var rules []impl.Rule
	for _, r := range g.Rules {
		rules = append(rules, impl.Rule{Left: r.Left, Right: roomy(r.Right)})
	}
	for i := 0; i < 3; i++ {
		rules = append(rules, impl.Rule{Left: spare, Right: []int{spare, spare}})
	}
	return impl.Grammar{Nons: g.Nons, Toks: g.Toks, Rules: rules[:len(g.Rules)]}
}

func whole[T any](list []T) []T { return list[:cap(list)] }

// pictureOf copies all that a grammar reaches, also behind the lengths of its lists.
func pictureOf(g impl.Grammar) [][]int {
	picture := [][]int{{g.Nons, g.Toks, len(g.Rules)}}
	for _, r := range whole(g.Rules) {
		picture = append(picture, []int{r.Left, len(r.Right)}, slices.Clone(whole(r.Right)))
	}
	return picture
}

// listsOf gives the lists of numbers in a grammar.
func listsOf(g impl.Grammar) [][]int {
	var lists [][]int
	for _, r := range g.Rules {
		lists = append(lists, r.Right)
	}
	return lists
}

// checkApart fills each list of an answer with a number of its own, behind its
// length too, so that memory shared by two of them shows.
func checkApart(t *testing.T, name string, lists [][]int) {
	t.Helper()
	for i, list := range lists {
		if slices.Contains(whole(list), spare) {
			t.Error(name, "hands out what is behind a length")
		}
		for k := range whole(list) {
			whole(list)[k] = 1000 + i
		}
	}
	for i, list := range lists {
		for _, x := range whole(list) {
			if x != 1000+i {
				t.Error(name, "lists share memory", i)
			}
		}
	}
}

func checkRulesApart(t *testing.T, name string, g impl.Grammar) {
	t.Helper()
	for _, r := range whole(g.Rules) {
		if r.Left == spare {
			t.Error(name, "hands out rules behind the length")
		}
	}
	checkApart(t, name, listsOf(g))
	for i := range whole(g.Rules) {
		whole(g.Rules)[i] = impl.Rule{Left: -77}
	}
}

// answers are what every function of chapter 1 tells of the same arguments.
type answers struct {
	Good, Word, Same, RulesOk, SizeOk, ReverseOk, RenameOk, WithoutOk bool
	Rules                                                             []int
	Size                                                              int
	Reverse, Rename, Without                                          impl.Grammar
}

func askAll(g, h impl.Grammar, list []int, number int) answers {
	var a answers
	a.Good = impl.GoodGrammar(g)
	a.Word = impl.GoodWord(g, list)
	a.Same = impl.SameGrammar(g, h)
	a.Rules, a.RulesOk = impl.RulesOf(g, number)
	a.Size, a.SizeOk = impl.SizeOf(g)
	a.Reverse, a.ReverseOk = impl.ReverseOf(g)
	a.Rename, a.RenameOk = impl.RenameNons(g, list)
	a.Without, a.WithoutOk = impl.WithoutRule(g, number)
	return a
}

func everyGrammar() map[string]impl.Grammar {
	all := goodGrammars()
	for name, g := range badGrammars() {
		all[name] = g
	}
	return all
}

func everyList() [][]int {
	return [][]int{
		nil, {}, {0}, {0, 1}, {0, 2, 1}, {0, 5, 4, 3, 2, 1}, {1, 0}, {0, 0}, {-1}, {math.MinInt, math.MaxInt},
		make([]int, 10), make([]int, 11), make([]int, 1000),
	}
}

// Promise 21.
func TestArgumentsAreNeitherChangedNorShared(t *testing.T) {
	for name, plain := range everyGrammar() {
		for _, list := range everyList() {
			for _, number := range []int{-1, 0, 1, 3, 15} {
				g, h, l := roomyGrammar(plain), roomyGrammar(plain), roomy(list)
				before, other, row := pictureOf(g), pictureOf(h), slices.Clone(whole(l))
				a := askAll(g, h, l, number)
				checkApart(t, name+" RulesOf", [][]int{a.Rules})
				checkRulesApart(t, name+" ReverseOf", a.Reverse)
				checkRulesApart(t, name+" RenameNons", a.Rename)
				checkRulesApart(t, name+" WithoutRule", a.Without)
				if !reflect.DeepEqual(before, pictureOf(g)) || !reflect.DeepEqual(other, pictureOf(h)) {
					t.Fatal("a grammar was changed, or an answer shares its memory:", name, number)
				}
				if !slices.Equal(row, whole(l)) {
					t.Fatal("a list was changed:", name, list)
				}
			}
		}
	}
}

// What is behind a length counts for nothing: a full list and one with room are the same argument.
func TestWhatIsBehindALengthIsNotRead(t *testing.T) {
	for name, plain := range everyGrammar() {
		for _, list := range everyList() {
			for _, number := range []int{0, 1, 4} {
				tight := askAll(plain, plain, list, number)
				loose := askAll(roomyGrammar(plain), roomyGrammar(plain), roomy(list), number)
				if !sameAnswers(tight, loose) {
					t.Fatal(name, list, number, tight, loose)
				}
			}
		}
	}
}

func sameAnswers(a, b answers) bool {
	flags := func(x answers) [8]bool {
		return [8]bool{x.Good, x.Word, x.Same, x.RulesOk, x.SizeOk, x.ReverseOk, x.RenameOk, x.WithoutOk}
	}
	return flags(a) == flags(b) && slices.Equal(a.Rules, b.Rules) && a.Size == b.Size &&
		sameParts(a.Reverse, b.Reverse) && sameParts(a.Rename, b.Rename) && sameParts(a.Without, b.Without)
}

// Nothing is kept: an answer that its owner has spoilt does not spoil the next one.
func TestNothingIsKeptFromCallToCall(t *testing.T) {
	for name, g := range goodGrammars() {
		want := askAll(g, g, []int{0}, 0)
		spoilt := askAll(g, g, []int{0}, 0)
		checkApart(t, name, [][]int{spoilt.Rules})
		checkRulesApart(t, name, spoilt.Reverse)
		checkRulesApart(t, name, spoilt.Rename)
		checkRulesApart(t, name, spoilt.Without)
		if !sameAnswers(want, askAll(g, g, []int{0}, 0)) {
			t.Error("another answer at the second call:", name)
		}
	}
}

func TestNoArgumentPanics(t *testing.T) {
	defer func() {
		if p := recover(); p != nil {
			t.Error("panic:", p)
		}
	}()
	all := everyGrammar()
	numbers := append(oddInts(), -1, 0, 1, 5, 6, 15, 16)
	for _, g := range all {
		for _, h := range all {
			impl.SameGrammar(g, h)
		}
		for _, x := range numbers {
			for _, list := range append(everyList(), []int{x}, []int{0, x}, []int{x, 0, 1}) {
				askAll(g, g, list, x)
			}
		}
	}
	for _, x := range numbers {
		for _, y := range numbers {
			for _, z := range numbers {
				g := grammar(x, y, rule(z, z, x, y))
				askAll(g, g, []int{x, y, z}, z)
			}
		}
	}
}

// Lists of an argument may share memory; those of an answer may not.
func TestListsOfOneArgumentMayShareMemory(t *testing.T) {
	shared := []int{0, token(0), 1, token(0)}
	g := grammar(2, 1, rule(0), rule(0), rule(1), rule(1))
	g.Rules[0].Right, g.Rules[1].Right = shared[:2], shared[1:3]
	g.Rules[2].Right, g.Rules[3].Right = shared[:3], shared[:2]
	a := askAll(g, g, []int{0, 1}, 3)
	if !a.Good || !a.ReverseOk || !a.RenameOk || !a.WithoutOk {
		t.Error("not good", a)
	}
	checkRulesApart(t, "ReverseOf", a.Reverse)
	checkRulesApart(t, "RenameNons", a.Rename)
	checkRulesApart(t, "WithoutRule", a.Without)
	if !slices.Equal(shared, []int{0, token(0), 1, token(0)}) {
		t.Error("the shared list was changed", shared)
	}
}
