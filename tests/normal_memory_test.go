package tests

import (
	"math"
	"reflect"
	"slices"
	"testing"

	"loop.example/g00758/impl"
)

// roomyLists has numbers behind each list, and lists behind all of them.
func roomyLists(table lists) lists {
	var out lists
	for _, list := range table {
		out = append(out, roomy(list))
	}
	for range 3 {
		out = append(out, []int{spare, spare, spare})
	}
	return out[:len(table)]
}

func roomyBinary(b impl.Binary) impl.Binary {
	return impl.Binary{
		Nons: b.Nons, Toks: b.Toks, Pairs: roomyLists(b.Pairs), Ones: roomyLists(b.Ones),
		Empty: roomy(b.Empty), From: roomyLists(b.From),
	}
}

// pictureOfBinary copies all that it reaches, also behind the lengths of its lists.
func pictureOfBinary(b impl.Binary) lists {
	picture := lists{{b.Nons, b.Toks, len(b.Pairs), len(b.Ones), len(b.Empty), len(b.From)}}
	for _, list := range slices.Concat(whole(b.Pairs), whole(b.Ones), lists{b.Empty}, whole(b.From)) {
		picture = append(picture, []int{len(list)}, slices.Clone(whole(list)))
	}
	return picture
}

// spoilBinary writes into all lists, and then into the lists of lists.
func spoilBinary(t *testing.T, name string, b impl.Binary) {
	t.Helper()
	checkApart(t, name, slices.Concat(b.Pairs, b.Ones, lists{b.Empty}, b.From))
	for i, table := range []lists{b.Pairs, b.Ones, b.From} {
		for k, list := range whole(table) {
			if k >= len(table) && list != nil {
				t.Error(name, "hands out a list behind a length")
			}
			whole(table)[k] = []int{-77 - i}
		}
	}
	for i, table := range []lists{b.Pairs, b.Ones, b.From} {
		for _, list := range whole(table) {
			if list[0] != -77-i {
				t.Error(name, "lists of lists share memory")
			}
		}
	}
}

// normalAnswers are what every function of chapter 5 tells of the same arguments.
type normalAnswers struct {
	told       []bool
	binary     impl.Binary
	size       int
	says, null []int
	grammar    impl.Grammar
}

func askNormal(g impl.Grammar, non int, b impl.Binary) normalAnswers {
	var a normalAnswers
	var binaryOk, sizeOk, saysOk, nullOk, grammarOk bool
	a.binary, binaryOk = impl.BinaryOf(g)
	good := impl.GoodBinary(b)
	a.size, sizeOk = impl.BinarySize(b)
	a.says, saysOk = impl.HelperSays(g, non)
	a.null, nullOk = impl.BinaryNull(b)
	a.grammar, grammarOk = impl.BinaryGrammar(b)
	a.told = []bool{binaryOk, good, sizeOk, saysOk, nullOk, grammarOk}
	return a
}

func sameNormal(a, b normalAnswers) bool {
	return slices.Equal(a.told, b.told) && sameBinary(a.binary, b.binary) && a.size == b.size &&
		slices.Equal(a.says, b.says) && slices.Equal(a.null, b.null) && sameParts(a.grammar, b.grammar)
}

func spoilNormal(t *testing.T, name string, a normalAnswers) {
	t.Helper()
	spoilBinary(t, name+" BinaryOf", a.binary)
	checkApart(t, name+" lists", lists{a.says, a.null})
	checkRulesApart(t, name+" BinaryGrammar", a.grammar)
}

func everyNormalGrammar() map[string]impl.Grammar {
	all := everyGrammar()
	for _, c := range binaryCases() {
		all["case "+c.text] = grammarOf(c.text)
	}
	all["most helpers"] = mostHelpers()
	return all
}

func everyBinary() map[string]impl.Binary {
	all := goodBinaries()
	for name, b := range badBinaries() {
		all[name] = b
	}
	for _, c := range binaryCases() {
		all["case "+c.text] = c.want
	}
	return all
}

// eachNormalArgument asks of each grammar with each nonterminal, and of each binary grammar.
func eachNormalArgument(ask func(name string, g impl.Grammar, non int, b impl.Binary)) {
	for name, g := range everyNormalGrammar() {
		for non := -1; non < 40; non++ {
			ask(name, g, non, impl.Binary{})
		}
	}
	for name, b := range everyBinary() {
		ask(name, impl.Grammar{}, 0, b)
	}
}

// Promise 21.
func TestNormalNeitherChangesNorSharesArguments(t *testing.T) {
	eachNormalArgument(func(name string, plain impl.Grammar, non int, plainBinary impl.Binary) {
		g, b := roomyGrammar(plain), roomyBinary(plainBinary)
		before, lists := pictureOf(g), pictureOfBinary(b)
		answers := askNormal(g, non, b)
		if !reflect.DeepEqual(before, pictureOf(g)) || !reflect.DeepEqual(lists, pictureOfBinary(b)) {
			t.Fatal("an argument was changed:", name, non)
		}
		spoilNormal(t, name, answers)
		if !reflect.DeepEqual(before, pictureOf(g)) || !reflect.DeepEqual(lists, pictureOfBinary(b)) {
			t.Fatal("an answer shares memory with an argument:", name, non)
		}
	})
}

func TestNormalDoesNotReadBehindALength(t *testing.T) {
	eachNormalArgument(func(name string, g impl.Grammar, non int, b impl.Binary) {
		tight, loose := askNormal(g, non, b), askNormal(roomyGrammar(g), non, roomyBinary(b))
		if !sameNormal(tight, loose) {
			t.Fatal(name, non, tight, loose)
		}
	})
}

// What is behind a length must not show, though it would fit.
func TestNormalDoesNotReadWhatFitsBehindALength(t *testing.T) {
	full := grammarOf("2 2;S=aSbA;A=SSb;S=;A=b")
	for rules := range 5 {
		for long := range 5 {
			g, plain := full, grammar(2, 2)
			g.Rules = slices.Clone(full.Rules)
			g.Rules[0].Right = full.Rules[0].Right[:long]
			g.Rules = g.Rules[:rules]
			for _, r := range g.Rules {
				plain.Rules = append(plain.Rules, rule(r.Left, slices.Clone(r.Right)...))
			}
			for non := range 8 {
				if got, want := askNormal(g, non, impl.Binary{}), askNormal(plain, non, impl.Binary{}); !sameNormal(got, want) {
					t.Error(rules, long, non, got, want)
				}
			}
		}
	}
	mixed := mixedBinary()
	for cut := range 3 {
		b := mixedBinary()
		b.Pairs, b.Ones, b.Empty, b.From = b.Pairs[:cut], b.Ones[:cut], b.Empty[:cut], b.From[:cut]
		plain := impl.Binary{Nons: 4, Toks: 2, Pairs: slices.Clone(mixed.Pairs[:cut]), Ones: slices.Clone(mixed.Ones[:cut]),
			Empty: slices.Clone(mixed.Empty[:cut]), From: slices.Clone(mixed.From[:cut])}
		if got, want := askNormal(full, 0, b), askNormal(full, 0, plain); !sameNormal(got, want) || got.size != 6*cut {
			t.Error(cut, got, want)
		}
	}
}

// Many calls, because what comes of a map's order shows at some of them only.
func TestNormalKeepsNothingFromCallToCall(t *testing.T) {
	eachNormalArgument(func(name string, g impl.Grammar, non int, b impl.Binary) {
		want := askNormal(g, non, b)
		for range 3 {
			spoilNormal(t, name, askNormal(g, non, b))
			if !sameNormal(want, askNormal(g, non, b)) {
				t.Fatal("another answer at a later call:", name, non)
			}
		}
	})
	for _, b := range pickedBinaries(100) {
		want := askNormal(impl.Grammar{}, 0, b)
		for range 20 {
			if !sameNormal(want, askNormal(impl.Grammar{}, 0, b)) {
				t.Fatal("another answer at a later call:", b)
			}
		}
	}
}

// Lists of an argument may share memory; those of an answer may not.
func TestNormalOfListsThatShareMemory(t *testing.T) {
	shared := []int{token(0), 0, 1, token(0), 1}
	before := slices.Clone(shared)
	g := grammar(2, 1, rule(0), rule(0), rule(1), rule(1))
	g.Rules[0].Right, g.Rules[1].Right = shared[:4], shared[1:5]
	g.Rules[2].Right, g.Rules[3].Right = shared[:3], shared[:2]
	numbers := []int{0, 1, 2, 2, 3}
	b := impl.Binary{Nons: 4, Toks: 1, Pairs: lists{numbers[:3], numbers[1:4]}, Ones: lists{numbers[:2], numbers[1:3], numbers[2:4]},
		Empty: numbers[3:], From: lists{numbers[:2], numbers[:2]}}
	got := askNormal(g, 3, b)
	want := askNormal(grammarOf("2 1;S=aSAa;S=SAaA;A=aSA;A=aS"), 3, copyOfBinary(b))
	if !sameNormal(got, want) || slices.Contains(got.told, false) || got.size != 14 || !slices.Equal(got.says, []int{1, token(0)}) {
		t.Error(got, want)
	}
	spoilNormal(t, "shared", got)
	if !slices.Equal(shared, before) || !slices.Equal(numbers, []int{0, 1, 2, 2, 3}) {
		t.Error("an argument was changed:", shared, numbers)
	}
}

func TestNoNormalPanic(t *testing.T) {
	defer func() {
		if p := recover(); p != nil {
			t.Error("panic:", p)
		}
	}()
	numbers := append(oddInts(), -5, -4, -2, -1, 0, 1, 4, 5, 6, 7, 16, 39, 40, 41)
	for _, g := range everyNormalGrammar() {
		for _, x := range numbers {
			askNormal(g, x, impl.Binary{Nons: x, Toks: x, Empty: []int{x}})
		}
	}
	for _, x := range numbers {
		for _, y := range numbers {
			for _, z := range numbers {
				for long := range 4 {
					list := []int{x, y, z}[:long]
					table := lists{nil, list, {y, z, x}, list}
					askNormal(grammar(x, y, rule(z, z, x, y), rule(0)), z, impl.Binary{Nons: x, Toks: y, Pairs: lists{list}, Ones: lists{list}, Empty: list, From: lists{list}})
					askNormal(grammar(6, 4, rule(x, y, z, x), rule(y, list...)), z, impl.Binary{Nons: 40, Toks: 4, Pairs: table[1:2], Ones: table[1:2], Empty: list, From: table[1:2]})
					askNormal(grammar(6, 4), z, impl.Binary{Nons: 40, Toks: 4, Pairs: table, Ones: table, Empty: list, From: table})
				}
			}
		}
	}
	many := slices.Repeat(lists{{math.MinInt, math.MaxInt}}, 100000)
	askNormal(impl.Grammar{}, math.MinInt, impl.Binary{Nons: 40, Toks: 4, Pairs: many, Ones: many, Empty: make([]int, 100000), From: many})
	askNormal(impl.Grammar{}, math.MaxInt, impl.Binary{Nons: math.MaxInt, Toks: math.MaxInt, From: make(lists, 100000)})
}
