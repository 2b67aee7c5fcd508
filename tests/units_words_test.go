package tests

import (
	"maps"
	"math"
	"slices"
	"testing"

	"loop.example/g00758/impl"
)

// A nonterminal stands for a symbol where it derives a word of a token that the
// symbol alone has.
func TestUnitRowsByWords(t *testing.T) {
	inner := 0
	for _, b := range unitBinaries() {
		rows, ok := impl.UnitRows(b)
		if !ok || len(rows) != b.Toks+b.Nons {
			t.Fatal(b, rows, ok)
		}
		for i, row := range rows {
			x := i - b.Toks
			if want := wantedUnitRow(b, x); !slices.Equal(row, want) {
				t.Fatal(b, x, row, want)
			}
			one, ok := impl.UnitRow(b, x)
			wantList(t, "row", one, ok, row...)
			if len(row) > 2 {
				inner++
			}
		}
	}
	if inner < 500 {
		t.Error("too few rows of several nonterminals to tell:", inner)
	}
}

func TestUnitPairsOneByOne(t *testing.T) {
	byPairs := 0
	for _, b := range append(unitBinaries(), pickedBinaries(2000)...) {
		want := wantedUnitPairs(b)
		pairs, ok := impl.UnitPairs(b)
		if !ok || !sameLists(pairs, want) {
			t.Fatal(b, pairs, ok, want)
		}
		byPairs += len(want) - len(b.Ones)
	}
	if byPairs < 2000 {
		t.Error("too few that are not in Ones:", byPairs)
	}
	for name, b := range goodBinaries() {
		pairs, ok := impl.UnitPairs(b)
		wantTable(t, name, pairs, ok, wantedUnitPairs(b))
	}
}

func TestHasUnitRoundByWords(t *testing.T) {
	seen := tally{}
	for _, b := range unitBinaries() {
		want := hasRoundByWords(b)
		if is, ok := impl.HasUnitRound(b); !ok || is != want {
			t.Fatal(b, is, ok, want)
		}
		seen[want]++
	}
	seen.wantBoth(t, 500)
}

// A way back begins with a pair, and its symbol's row has what stands for it.
func TestHasUnitRoundWhereAPairLeadsBack(t *testing.T) {
	seen := tally{}
	for _, b := range pickedBinaries(1500) {
		pairs, _ := impl.UnitPairs(b)
		want := slices.ContainsFunc(pairs, func(pair []int) bool {
			row, _ := impl.UnitRow(b, pair[0])
			return slices.Contains(row, pair[1])
		})
		if is, ok := impl.HasUnitRound(b); !ok || is != want {
			t.Fatal(b, is, ok, want)
		}
		seen[want]++
	}
	seen.wantBoth(t, 300)
}

// joinedRows joins the unit rows of the members one by one.
func joinedRows(t *testing.T, b impl.Binary, set []int) []int {
	t.Helper()
	var all []int
	for _, non := range set {
		row, ok := impl.UnitRow(b, non)
		if !ok {
			t.Fatal("no row", b, non)
		}
		if all, ok = impl.JoinRows(all, row); !ok {
			t.Fatal("not joined", b, all, row)
		}
	}
	return all
}

// wantClosed holds one closed set against promise 6.
func wantClosed(t *testing.T, b impl.Binary, set []int) []int {
	t.Helper()
	closed, ok := impl.ClosedSet(b, set)
	if want := joinedRows(t, b, set); !ok || !slices.Equal(closed, want) {
		t.Fatal("not the rows of its members:", b, set, closed, ok, want)
	}
	if again, ok := impl.ClosedSet(b, closed); !ok || !slices.Equal(again, closed) {
		t.Fatal("not closed:", b, set, closed, again, ok)
	}
	pairs, _ := impl.UnitPairs(b)
	for _, pair := range pairs {
		if slices.Contains(closed, pair[1]) && !slices.Contains(closed, pair[0]) {
			t.Fatal("a pair leads out:", b, set, closed, pair)
		}
	}
	for _, non := range set {
		if !slices.Contains(closed, non) {
			t.Fatal("a member is left out:", b, set, closed)
		}
	}
	return closed
}

// Promise 6: all sets of nonterminals there are.
func TestClosedSetIsClosedAndTheRowsOfItsMembers(t *testing.T) {
	larger, all := 0, pickedBinaries(120)
	for i, b := range smallBinaries() {
		if i%7 == 0 || b.Nons == 3 {
			all = append(all, b)
		}
	}
	for _, c := range unitCases() {
		all = append(all, c.binary())
	}
	for _, b := range all {
		for _, set := range setsUpTo(b.Nons) {
			if len(wantClosed(t, b, set)) > len(set) {
				larger++
			}
		}
	}
	if larger < 2000 {
		t.Error("too few sets that grow:", larger)
	}
}

// Promise 6, with as many nonterminals as there can be.
func TestClosedSetOfManyNonterminals(t *testing.T) {
	p := picker{11}
	larger := 0
	for range 60 {
		b := impl.Binary{Nons: 40, Toks: 4}
		for range 10 + p.pick(30) {
			b.Ones = append(b.Ones, []int{p.pick(40), p.pick(44) - 4})
			b.Pairs = append(b.Pairs, []int{p.pick(40), p.pick(44) - 4, p.pick(44) - 4})
		}
		b.Empty = slices.Compact(sorted([]int{p.pick(40), p.pick(40), p.pick(40)}))
		b.Pairs, b.Ones = raised(b.Pairs), raised(b.Ones)
		for range 4 {
			set := slices.Compact(sorted([]int{p.pick(40), p.pick(40), p.pick(40)}))
			if len(wantClosed(t, b, set)) > len(set) {
				larger++
			}
		}
	}
	if larger < 100 {
		t.Error("too few sets that grow:", larger)
	}
}

// wantedJoin takes the numbers as a map's keys.
func wantedJoin(a, b []int) []int {
	all := map[int]bool{}
	for _, x := range slices.Concat(a, b) {
		all[x] = true
	}
	return slices.Sorted(maps.Keys(all))
}

// All rising lists of some numbers beside each other.
func TestJoinRowsOfAllListsOfAFew(t *testing.T) {
	numbers := []int{math.MinInt, math.MinInt + 1, -1, 0, 39, math.MaxInt}
	var all lists
	for _, set := range setsUpTo(len(numbers)) {
		list := []int{}
		for _, at := range set {
			list = append(list, numbers[at])
		}
		all = append(all, list)
	}
	for _, a := range all {
		for _, b := range all {
			joined, ok := impl.JoinRows(a, b)
			wantList(t, "joined", joined, ok, wantedJoin(a, b)...)
		}
	}
}

// Any lists of a few numbers: they are joined where both rise, and only there.
func TestJoinRowsOfAnyLists(t *testing.T) {
	numbers := []int{math.MinInt, -1, 0, 1, math.MaxInt}
	var all lists
	for _, digits := range wordsUpTo(len(numbers), 3) {
		list := []int{}
		for _, d := range digits {
			list = append(list, numbers[d])
		}
		all = append(all, list)
	}
	rises := func(list []int) bool {
		for i := range list {
			if i > 0 && list[i-1] >= list[i] {
				return false
			}
		}
		return true
	}
	for _, a := range all {
		for _, b := range all {
			joined, ok := impl.JoinRows(a, b)
			if rises(a) && rises(b) {
				wantList(t, "both rise", joined, ok, wantedJoin(a, b)...)
			} else {
				wantNoList(t, "one does not rise", joined, ok)
			}
		}
	}
}

func TestJoinRowsOfPickedLists(t *testing.T) {
	p := picker{13}
	list := func() []int {
		var out []int
		for range p.pick(41) {
			out = append(out, p.pick(90)-45)
		}
		return slices.Compact(sorted(out))
	}
	for range 3000 {
		a, b := list(), list()
		joined, ok := impl.JoinRows(a, b)
		wantList(t, "joined", joined, ok, wantedJoin(a, b)...)
	}
}

// A nonterminal's row by the grammar itself: all that derive what it derives
// derive each of its words too.
func TestUnitRowsDeriveTheWordsOfTheirSymbol(t *testing.T) {
	words := 0
	for _, g := range append(someGrammars(1200), longGrammars()...) {
		b, _ := impl.BinaryOf(g)
		found := enumerated(plainRules(b), 3)
		rows, ok := impl.UnitRows(b)
		if !ok {
			t.Fatal("no rows", b)
		}
		for i, row := range rows {
			for _, text := range found.of([]int{i - b.Toks}, 3).all(3) {
				for _, non := range row {
					if !found[non].has(text) {
						t.Fatal(b, i-b.Toks, row, text)
					}
					words++
				}
			}
		}
	}
	if words < 5000 {
		t.Error("too few words to tell:", words)
	}
}
