package tests

import (
	"slices"
	"testing"

	"loop.example/g00758/impl"
)

func sameTexts(a, b texts) bool {
	return slices.Equal(a.all(len(a)-1), b.all(len(b)-1))
}

// Promise 5: each nonterminal of the grammar derives the same words in the
// binary one, and each helper what HelperSays tells of it.
func TestBinaryDerivesTheSameWords(t *testing.T) {
	words, helped := 0, 0
	for _, g := range normalGrammars() {
		b, ok := impl.BinaryOf(g)
		if !ok {
			t.Fatal("no binary grammar of", g)
		}
		const most = 4
		whole, parts := enumerated(g, most), enumerated(plainRules(b), most)
		for non := range b.Nons {
			says, ok := impl.HelperSays(g, non)
			if want := whole.of(says, most); !ok || !sameTexts(parts[non], want) {
				t.Fatal(g, b, non, says, ok, parts[non], want)
			}
			if non >= g.Nons {
				helped += len(parts[non].all(most))
			}
		}
		if !sameTexts(whole[0], parts[0]) {
			t.Fatal(g, b)
		}
		words += len(parts[0].all(most))
	}
	if words < 5000 || helped < 5000 {
		t.Error("too few words to tell:", words, helped)
	}
}

// Promise 5: where the binary grammar is a good one, by InLanguage of both.
func TestBinaryGrammarHasTheSameLanguage(t *testing.T) {
	seen := tally{}
	told := 0
	for _, g := range append(normalGrammars(), longGrammars()...) {
		b, _ := impl.BinaryOf(g)
		x, ok := impl.BinaryGrammar(b)
		if !ok {
			continue
		}
		if b.Nons > g.Nons {
			told++
		}
		for _, w := range wordsUpTo(g.Toks, 4) {
			want, ok := impl.InLanguage(g, w)
			if !ok {
				t.Fatal(g, w)
			}
			if is, ok := impl.InLanguage(x, w); !ok || is != want {
				t.Fatal(g, x, w, is, ok, want)
			}
			seen[want]++
		}
	}
	seen.wantBoth(t, 4000)
	if told < 200 {
		t.Error("too few grammars with helpers to tell:", told)
	}
}

// Promise 5, by words of up to MaxWord tokens.
func TestBinaryGrammarHasTheSameLongWords(t *testing.T) {
	seen := tally{}
	for _, g := range longGrammars() {
		b, _ := impl.BinaryOf(g)
		x, ok := impl.BinaryGrammar(b)
		if !ok {
			continue
		}
		for _, w := range wordsUpTo(g.Toks, 10) {
			want, _ := impl.InLanguage(g, w)
			if is, ok := impl.InLanguage(x, w); !ok || is != want {
				t.Fatal(g, x, w, is, ok, want)
			}
			seen[want]++
		}
	}
	seen.wantBoth(t, 2000)
}

// Promise 5: the size.
func TestBinaryIsAtMostThreeTimesAsLarge(t *testing.T) {
	for _, g := range normalGrammars() {
		b, _ := impl.BinaryOf(g)
		size, ok := impl.SizeOf(g)
		binary, binaryOk := impl.BinarySize(b)
		if !ok || !binaryOk || binary > 3*size {
			t.Fatal(g, b, size, ok, binary, binaryOk)
		}
		want := 0
		for _, r := range g.Rules {
			want += []int{1, 2, 3, 6, 9}[len(r.Right)]
		}
		wantSize(t, "by the Rights", binary, binaryOk, want)
	}
}

// pickedBinaries makes the same many good binary grammars at every run.
func pickedBinaries(count int) []impl.Binary {
	p := picker{5}
	var out []impl.Binary
	for range count {
		nons, toks := 1+p.pick(8), 1+p.pick(2)
		b := impl.Binary{Nons: nons, Toks: toks}
		for range p.pick(14) {
			b.Pairs = append(b.Pairs, []int{p.pick(nons), p.pick(nons+toks) - toks, p.pick(nons+toks) - toks})
		}
		for range p.pick(6) {
			b.Ones = append(b.Ones, []int{p.pick(nons), p.pick(nons+toks) - toks})
		}
		for range p.pick(4) {
			b.Empty = append(b.Empty, p.pick(nons))
		}
		b.Pairs, b.Ones, b.Empty = raised(b.Pairs), raised(b.Ones), slices.Compact(sorted(b.Empty))
		out = append(out, b)
	}
	return out
}

func raised(table lists) lists {
	slices.SortFunc(table, slices.Compare[[]int])
	return slices.CompactFunc(table, slices.Equal[[]int])
}

func sorted(list []int) []int {
	slices.Sort(list)
	return list
}

// emptyOnes are the nonterminals for which the empty word is enumerated.
func emptyOnes(b impl.Binary) []int {
	var out []int
	for non, words := range enumerated(plainRules(b), 0) {
		if words.has("") {
			out = append(out, non)
		}
	}
	return out
}

func TestBinaryNullWhatIsEnumerated(t *testing.T) {
	later := 0
	for _, b := range pickedBinaries(2000) {
		want := emptyOnes(b)
		null, ok := impl.BinaryNull(b)
		if !ok || !slices.Equal(null, want) {
			t.Fatal(b, null, ok, want)
		}
		later += len(want) - len(b.Empty)
	}
	if later < 500 {
		t.Error("too few that are not in Empty:", later)
	}
	for name, b := range goodBinaries() {
		null, ok := impl.BinaryNull(b)
		wantList(t, name, null, ok, emptyOnes(b)...)
	}
}

// A nonterminal of the grammar is in BinaryNull where NullableOf has it, and a
// helper where all that it says is.
func TestBinaryNullIsThatOfTheGrammar(t *testing.T) {
	for _, g := range normalGrammars() {
		b, _ := impl.BinaryOf(g)
		nullable, _ := impl.NullableOf(g)
		var want []int
		for non := range b.Nons {
			says, _ := impl.HelperSays(g, non)
			if !slices.ContainsFunc(says, func(x int) bool { return !slices.Contains(nullable, x) }) {
				want = append(want, non)
			}
		}
		null, ok := impl.BinaryNull(b)
		wantList(t, "null", null, ok, want...)
	}
}

func TestBinaryGrammarRuleByRule(t *testing.T) {
	seen := tally{}
	for _, b := range pickedBinaries(2000) {
		want := plainRules(b)
		g, ok := impl.BinaryGrammar(b)
		if fits := b.Nons <= 6 && len(want.Rules) <= 16; fits {
			wantGrammar(t, "rules", g, ok, want)
			seen[true]++
		} else {
			wantNoGrammar(t, "too large", g, ok)
			seen[false]++
		}
	}
	seen.wantBoth(t, 200)
}

// A grammar without long Rights comes back, its rules by their kinds and rising.
func TestBinaryGrammarOfTheBinaryOfItself(t *testing.T) {
	for _, b := range pickedBinaries(1000) {
		g, ok := impl.BinaryGrammar(b)
		if !ok {
			continue
		}
		again, ok := impl.BinaryOf(g)
		b.From = nil
		wantBinary(t, "again", again, ok, b)
	}
}

// isGoodByHand holds each list against each other one.
func isGoodByHand(b impl.Binary) bool {
	symbol := func(x int) bool { return -b.Toks <= x && x < b.Nons }
	inOrder := func(table lists, long int) bool {
		for i, l := range table {
			if len(l) != long || l[0] < 0 || slices.ContainsFunc(l, func(x int) bool { return !symbol(x) }) {
				return false
			}
			for _, later := range table[i+1:] {
				if len(later) != long || slices.Compare(l, later) >= 0 {
					return false
				}
			}
		}
		return true
	}
	var empty lists
	for _, non := range b.Empty {
		empty = append(empty, []int{non})
	}
	counts := 1 <= b.Nons && b.Nons <= 40 && 1 <= b.Toks && b.Toks <= 4
	from := len(b.From) <= b.Nons && !slices.ContainsFunc(b.From, func(l []int) bool { return len(l) != 2 })
	return counts && from && inOrder(b.Pairs, 3) && inOrder(b.Ones, 2) && inOrder(empty, 1)
}

// numbersIn points at each number of a binary grammar.
func numbersIn(b *impl.Binary) []*int {
	out := []*int{&b.Nons, &b.Toks}
	for _, list := range slices.Concat(b.Pairs, b.Ones, lists{b.Empty}, b.From) {
		for i := range list {
			out = append(out, &list[i])
		}
	}
	return out
}

// One number of a good one is changed.
func TestGoodBinaryWithOneNumberChanged(t *testing.T) {
	seen := tally{}
	for _, plain := range []impl.Binary{mixedBinary(), fullBinary(2, 1), goodBinaries()["both at most"]} {
		b := copyOfBinary(plain)
		for _, number := range numbersIn(&b) {
			before := *number
			for _, x := range append(oddInts(), -6, -5, -4, -3, -2, -1, 0, 1, 2, 3, 4, 5, 38, 39, 40, 41) {
				*number = x
				want := isGoodByHand(b)
				if impl.GoodBinary(b) != want {
					t.Fatal(b, want)
				}
				seen[want]++
			}
			*number = before
		}
	}
	seen.wantBoth(t, 200)
}

// Two lists change places, one is there twice, or one number is dropped or put.
func TestGoodBinaryWithOneListChanged(t *testing.T) {
	seen := tally{}
	ask := func(b impl.Binary) {
		want := isGoodByHand(b)
		if impl.GoodBinary(b) != want {
			t.Fatal(b, want)
		}
		seen[want]++
	}
	for _, plain := range []impl.Binary{mixedBinary(), fullBinary(2, 1), fullBinary(3, 2)} {
		for kind := range 3 {
			tableOf := func(b *impl.Binary) *lists { return []*lists{&b.Pairs, &b.Ones, &b.From}[kind] }
			count := len(*tableOf(&plain))
			for i := range count {
				for j := range count {
					swapped, twice := copyOfBinary(plain), copyOfBinary(plain)
					table := *tableOf(&swapped)
					table[i], table[j] = table[j], table[i]
					(*tableOf(&twice))[i] = (*tableOf(&twice))[j]
					ask(swapped)
					ask(twice)
				}
				shorter, longer, fewer := copyOfBinary(plain), copyOfBinary(plain), copyOfBinary(plain)
				table := *tableOf(&shorter)
				table[i] = table[i][:len(table[i])-1]
				table = *tableOf(&longer)
				table[i] = append(table[i], 0)
				*tableOf(&fewer) = slices.Delete(*tableOf(&fewer), i, i+1)
				ask(shorter)
				ask(longer)
				ask(fewer)
			}
		}
	}
	seen.wantBoth(t, 100)
}
