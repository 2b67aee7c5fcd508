package tests

import (
	"math"
	"slices"
	"testing"

	"loop.example/g00758/impl"
)

// lists writes a list of lists more shortly.
type lists = [][]int

func sameLists(a, b lists) bool {
	return slices.EqualFunc(a, b, slices.Equal[[]int])
}

// sameBinary compares field by field; nil and empty lists are the same.
func sameBinary(a, b impl.Binary) bool {
	return a.Nons == b.Nons && a.Toks == b.Toks && sameLists(a.Pairs, b.Pairs) && sameLists(a.Ones, b.Ones) &&
		slices.Equal(a.Empty, b.Empty) && sameLists(a.From, b.From)
}

func wantBinary(t *testing.T, name string, got impl.Binary, ok bool, want impl.Binary) {
	t.Helper()
	if !ok || !sameBinary(got, want) {
		t.Errorf("%s: got %+v, %v; want %+v, true", name, got, ok, want)
	}
}

func wantNoBinary(t *testing.T, name string, got impl.Binary, ok bool) {
	t.Helper()
	if ok || !sameBinary(got, impl.Binary{}) {
		t.Errorf("%s: got %+v, %v; want the zero answer", name, got, ok)
	}
}

func wantSize(t *testing.T, name string, got int, ok bool, want int) {
	t.Helper()
	if !ok || got != want {
		t.Errorf("%s: got %v, %v; want %v, true", name, got, ok, want)
	}
}

// copyOfBinary shares no memory with what it copies, so that a test may change it.
func copyOfBinary(b impl.Binary) impl.Binary {
	return impl.Binary{
		Nons: b.Nons, Toks: b.Toks, Pairs: copyOfLists(b.Pairs), Ones: copyOfLists(b.Ones),
		Empty: slices.Clone(b.Empty), From: copyOfLists(b.From),
	}
}

func copyOfLists(table lists) lists {
	var out lists
	for _, list := range table {
		out = append(out, slices.Clone(list))
	}
	return out
}

// plainRules writes a binary grammar as one with rules, however many these are,
// by the tests' own reading.
func plainRules(b impl.Binary) impl.Grammar {
	g := grammar(b.Nons, b.Toks)
	for _, l := range b.Pairs {
		g.Rules = append(g.Rules, rule(l[0], l[1], l[2]))
	}
	for _, l := range b.Ones {
		g.Rules = append(g.Rules, rule(l[0], l[1]))
	}
	for _, non := range b.Empty {
		g.Rules = append(g.Rules, rule(non))
	}
	return g
}

// fullLists has all lists of a nonterminal and count symbols, rising.
func fullLists(nons, toks, count int) lists {
	var out lists
	for non := range nons {
		heads := lists{{non}}
		for range count {
			var longer lists
			for _, head := range heads {
				for x := -toks; x < nons; x++ {
					longer = append(longer, append(slices.Clone(head), x))
				}
			}
			heads = longer
		}
		out = append(out, heads...)
	}
	return out
}

func upTo(count int) []int {
	var out []int
	for x := range count {
		out = append(out, x)
	}
	return out
}

// manyPlaces are so many lists of two numbers.
func manyPlaces(count int) lists {
	return slices.Repeat(lists{{0, 1}}, count)
}

// fullBinary has all that a binary grammar of these counts can have.
func fullBinary(nons, toks int) impl.Binary {
	return impl.Binary{
		Nons: nons, Toks: toks, Pairs: fullLists(nons, toks, 2), Ones: fullLists(nons, toks, 1),
		Empty: upTo(nons), From: manyPlaces(nons),
	}
}

// mixedBinary has several of each kind.
func mixedBinary() impl.Binary {
	return impl.Binary{
		Nons: 4, Toks: 2,
		Pairs: lists{{0, -2, 3}, {0, -1, 1}, {0, -1, 2}, {0, 1, -2}, {1, 0, 0}, {3, 3, 3}},
		Ones:  lists{{0, -2}, {0, -1}, {0, 3}, {2, -2}, {3, 0}},
		Empty: []int{1, 3},
		From:  lists{{0, 1}, {4, 2}},
	}
}

// goodBinaries are ordinary ones and those that meet a limit exactly, by name.
func goodBinaries() map[string]impl.Binary {
	good := map[string]impl.Binary{
		"nothing":         {Nons: 1, Toks: 1},
		"empty lists":     {Nons: 1, Toks: 1, Pairs: lists{}, Ones: lists{}, Empty: []int{}, From: lists{}},
		"most Nons":       {Nons: 40, Toks: 1, Pairs: lists{{39, 39, 39}}, Ones: lists{{39, 39}}, Empty: []int{39}},
		"most Toks":       {Nons: 1, Toks: 4, Pairs: lists{{0, -4, -4}}, Ones: lists{{0, -4}}},
		"both at most":    {Nons: 40, Toks: 4, Pairs: lists{{0, -4, 39}, {39, -4, -4}}, Ones: lists{{0, -4}}, Empty: []int{0, 39}},
		"one pair":        {Nons: 1, Toks: 1, Pairs: lists{{0, -1, 0}}},
		"one of Ones":     {Nons: 1, Toks: 1, Ones: lists{{0, 0}}},
		"one of Empty":    {Nons: 1, Toks: 1, Empty: []int{0}},
		"of the pairs":    {Nons: 2, Toks: 2, Pairs: lists{{0, -1, 1}, {1, 0, -2}}, Empty: []int{0}, From: lists{{0, 1}}},
		"mixed":           mixedBinary(),
		"full, one":       fullBinary(1, 1),
		"full, small":     fullBinary(3, 2),
		"full, six":       fullBinary(6, 4),
		"From as Nons":    {Nons: 3, Toks: 1, From: manyPlaces(3)},
		"From as 40 Nons": {Nons: 40, Toks: 1, From: manyPlaces(40)},
		"From twice":      {Nons: 3, Toks: 1, From: lists{{5, 5}, {5, 5}}},
		"From falling":    {Nons: 3, Toks: 1, From: lists{{9, 2}, {3, 7}, {0, 0}}},
	}
	for _, x := range append(oddInts(), -1, 40) {
		good["From with "+numberText(x)] = impl.Binary{Nons: 2, Toks: 1, From: lists{{x, 0}, {0, x}}}
	}
	return good
}

// badBinaries each break one demand of the document, by name.
func badBinaries() map[string]impl.Binary {
	bad := map[string]impl.Binary{"zero value": {}, "all but Nons": {Toks: 1, Empty: []int{0}}, "all but Toks": {Nons: 1, Empty: []int{0}}}
	for _, x := range []int{math.MinInt, -1000, -1, 0, 41, 42, 1000, math.MaxInt} {
		bad["Nons of "+numberText(x)] = impl.Binary{Nons: x, Toks: 1}
	}
	for _, x := range append(oddInts(), 0, -1, 5, 6) {
		bad["Toks of "+numberText(x)] = impl.Binary{Nons: 1, Toks: x}
	}
	addBadLengths(bad)
	addBadNumbers(bad)
	addUnsorted(bad)
	return bad
}

func addBadLengths(bad map[string]impl.Binary) {
	short := map[string][]int{"nil": nil, "none": {}, "one": {0}, "two": {0, 0}, "three": {0, 0, 0}, "four": {0, 0, 0, 0}, "many": make([]int, 5000)}
	for name, list := range short {
		ahead := func(l []int) lists { return lists{list, l} }
		behind := func(l []int) lists { return lists{l, list} }
		for place, table := range map[string]func([]int) lists{" ahead": ahead, " behind": behind} {
			if len(list) != 3 {
				bad["Pairs with "+name+place] = impl.Binary{Nons: 3, Toks: 1, Pairs: table([]int{1, 1, 1})}
				bad["Pairs with "+name+place+" of little"] = impl.Binary{Nons: 3, Toks: 1, Pairs: table([]int{0, -1, -1})}
			}
			if len(list) != 2 {
				bad["Ones with "+name+place] = impl.Binary{Nons: 3, Toks: 1, Ones: table([]int{1, 1})}
				bad["Ones with "+name+place+" of little"] = impl.Binary{Nons: 3, Toks: 1, Ones: table([]int{0, -1})}
				bad["From with "+name+place] = impl.Binary{Nons: 3, Toks: 1, From: table([]int{0, 1})}
			}
		}
	}
	bad["From of 2 with Nons 1"] = impl.Binary{Nons: 1, Toks: 1, From: manyPlaces(2)}
	bad["From of 4 with Nons 3"] = impl.Binary{Nons: 3, Toks: 1, From: manyPlaces(4)}
	bad["From of 41 with Nons 40"] = impl.Binary{Nons: 40, Toks: 4, From: manyPlaces(41)}
	bad["From of many"] = impl.Binary{Nons: 40, Toks: 4, From: manyPlaces(5000)}
}

// addBadNumbers has numbers that are no nonterminal, and those that are no symbol.
func addBadNumbers(bad map[string]impl.Binary) {
	for _, x := range append(oddInts(), 3, 4, 6, 39, 40, -3, -4, -5) {
		name := " of " + numberText(x)
		bad["pair's left"+name] = impl.Binary{Nons: 3, Toks: 2, Pairs: lists{{x, 0, 0}}}
		bad["pair's first"+name] = impl.Binary{Nons: 3, Toks: 2, Pairs: lists{{0, x, 0}}}
		bad["pair's second"+name] = impl.Binary{Nons: 3, Toks: 2, Pairs: lists{{0, 0, x}}}
		bad["one's left"+name] = impl.Binary{Nons: 3, Toks: 2, Ones: lists{{x, 0}}}
		bad["one's symbol"+name] = impl.Binary{Nons: 3, Toks: 2, Ones: lists{{0, x}}}
		bad["Empty"+name] = impl.Binary{Nons: 3, Toks: 2, Empty: []int{x}}
	}
	for _, x := range []int{token(0), token(1)} {
		name := " of token " + numberText(x)
		bad["pair's left"+name] = impl.Binary{Nons: 3, Toks: 2, Pairs: lists{{x, 0, 0}}}
		bad["one's left"+name] = impl.Binary{Nons: 3, Toks: 2, Ones: lists{{x, 0}}}
		bad["Empty"+name] = impl.Binary{Nons: 3, Toks: 2, Empty: []int{x}}
	}
	bad["later pair"] = impl.Binary{Nons: 3, Toks: 2, Pairs: lists{{0, 0, 0}, {1, 0, 0}, {2, 0, 3}}}
	bad["later one"] = impl.Binary{Nons: 3, Toks: 2, Ones: lists{{0, 0}, {1, 0}, {2, 3}}}
	bad["later Empty"] = impl.Binary{Nons: 3, Toks: 2, Empty: []int{0, 1, 2, 3}}
	bad["40 of 40 Nons"] = impl.Binary{Nons: 40, Toks: 4, Empty: []int{40}}
	bad["token 4 of 4 Toks"] = impl.Binary{Nons: 40, Toks: 4, Ones: lists{{0, token(4)}}}
}

// addUnsorted has lists that fall at each of their numbers, or are there twice.
func addUnsorted(bad map[string]impl.Binary) {
	for name, pairs := range map[string]lists{
		"left falls":           {{1, 0, 0}, {0, 1, 1}},
		"first falls":          {{1, 1, 0}, {1, 0, 1}},
		"second falls":         {{1, 1, 1}, {1, 1, 0}},
		"first falls to token": {{1, 0, 0}, {1, -1, 1}},
		"tokens fall":          {{1, -1, 0}, {1, -2, 0}},
		"second falls, tokens": {{1, -1, -1}, {1, -1, -2}},
		"twice":                {{1, 1, 0}, {1, 1, 0}},
		"twice, tokens":        {{0, -1, -2}, {0, -1, -2}},
		"twice, apart":         {{0, 0, 0}, {0, 1, 0}, {0, 0, 0}},
		"twice, at the end":    {{0, 0, 0}, {0, 1, 0}, {0, 1, 0}},
		"last falls":           {{0, 0, 0}, {0, 1, 0}, {1, 0, 0}, {0, 2, 0}},
	} {
		bad["Pairs: "+name] = impl.Binary{Nons: 3, Toks: 2, Pairs: pairs}
	}
	for name, ones := range map[string]lists{
		"left falls":           {{1, 0}, {0, 1}},
		"symbol falls":         {{1, 1}, {1, 0}},
		"symbol falls, tokens": {{1, -1}, {1, -2}},
		"symbol to token":      {{1, 0}, {1, -1}},
		"twice":                {{1, 1}, {1, 1}},
		"twice, at the end":    {{0, 0}, {1, -1}, {1, -1}},
		"last falls":           {{0, 0}, {0, 1}, {1, 0}, {0, 2}},
	} {
		bad["Ones: "+name] = impl.Binary{Nons: 3, Toks: 2, Ones: ones}
	}
	for name, empty := range map[string][]int{
		"falls": {1, 0}, "twice": {1, 1}, "zero twice": {0, 0}, "last falls": {0, 1, 2, 0}, "twice at the end": {0, 2, 2},
	} {
		bad["Empty: "+name] = impl.Binary{Nons: 3, Toks: 2, Empty: empty}
	}
}
