package tests

import (
	"math"
	"slices"
	"testing"

	"loop.example/g00758/impl"
)

func TestUnitPairs(t *testing.T) {
	for _, c := range unitCases() {
		pairs, ok := impl.UnitPairs(c.binary())
		wantTable(t, c.text, pairs, ok, c.unitPairs())
	}
}

func TestUnitRow(t *testing.T) {
	for _, c := range unitCases() {
		b, rows := c.binary(), c.unitRows()
		for i, want := range rows {
			row, ok := impl.UnitRow(b, i-b.Toks)
			wantList(t, c.text+" "+numberText(i-b.Toks), row, ok, want...)
		}
		if len(rows) != b.Toks+b.Nons {
			t.Error("not a row for each symbol:", c.text)
		}
	}
}

func TestUnitRows(t *testing.T) {
	for _, c := range unitCases() {
		rows, ok := impl.UnitRows(c.binary())
		wantTable(t, c.text, rows, ok, c.unitRows())
	}
}

func TestHasUnitRound(t *testing.T) {
	for _, c := range unitCases() {
		wantRound(t, c.text, c.binary(), c.round)
	}
}

// Pairs, Ones and Empty of one grammar, and of several steps.
func TestUnitsOfTheMixedBinary(t *testing.T) {
	b := mixedBinary()
	pairs, ok := impl.UnitPairs(b)
	wantTable(t, "pairs", pairs, ok, lists{{0, -2}, {0, -1}, {0, 3}, {1, 0}, {2, -2}, {3, 0}, {3, 3}})
	rows, ok := impl.UnitRows(b)
	wantTable(t, "rows", rows, ok, lists{{0, 1, 2, 3}, {0, 1, 3}, {0, 1, 3}, {1}, {2}, {0, 1, 3}})
	wantRound(t, "round", b, true)
}

func TestUnitRowOfWhatIsNoSymbol(t *testing.T) {
	for _, counts := range [][2]int{{1, 1}, {2, 3}, {6, 2}, {39, 4}, {40, 4}, {40, 1}} {
		b := impl.Binary{Nons: counts[0], Toks: counts[1], Ones: lists{{0, 0}, {0, counts[0] - 1}}, Empty: []int{0}}
		b.Ones = raised(b.Ones)
		for x := -50; x <= 50; x++ {
			row, ok := impl.UnitRow(b, x)
			if -b.Toks <= x && x < b.Nons {
				wantList(t, numberText(x), row, ok, wantedUnitRowOfOnes(b, x)...)
			} else {
				wantNoList(t, numberText(x), row, ok)
			}
		}
		for _, x := range oddInts() {
			if x != 17 || b.Nons <= 17 {
				row, ok := impl.UnitRow(b, x)
				wantNoList(t, numberText(x), row, ok)
			}
		}
	}
}

// wantedUnitRowOfOnes is for the grammar above, where just 0 stands for another.
func wantedUnitRowOfOnes(b impl.Binary, x int) []int {
	switch {
	case x < 0:
		return nil
	case x > 0 && x == b.Nons-1:
		return []int{0, x}
	}
	return []int{x}
}

// A chain and a round of all nonterminals there can be, by Ones and by Pairs
// beside the last one, which derives the empty word.
func TestUnitsOfLongChains(t *testing.T) {
	for name, by := range map[string]func(b *impl.Binary, non, x int){
		"Ones":         func(b *impl.Binary, non, x int) { b.Ones = append(b.Ones, []int{non, x}) },
		"Pairs, ahead": func(b *impl.Binary, non, x int) { b.Pairs = append(b.Pairs, []int{non, x, 39}) },
		"Pairs behind": func(b *impl.Binary, non, x int) { b.Pairs = append(b.Pairs, []int{non, 39, x}) },
	} {
		down := impl.Binary{Nons: 40, Toks: 4, Empty: []int{39}}
		up := impl.Binary{Nons: 40, Toks: 4, Empty: []int{39}}
		by(&up, 0, token(3))
		for non := range 38 {
			by(&down, non, non+1)
			by(&up, non+1, non)
		}
		by(&down, 38, token(3))
		for x := range 39 {
			row, ok := impl.UnitRow(down, x)
			wantList(t, name+", chain down", row, ok, upTo(x+1)...)
			row, ok = impl.UnitRow(up, x)
			wantList(t, name+", chain up", row, ok, upTo(39)[x:]...)
		}
		wantChainEnds(t, name+", chain down", down)
		wantChainEnds(t, name+", chain up", up)
		wantRound(t, name+", chain down", down, false)
		wantRound(t, name+", chain up", up, false)
		by(&down, 38, 0)
		wantRound(t, name+", chain closed", down, true)
		rows, ok := impl.UnitRows(down)
		want := slices.Concat(lists{upTo(39), nil, nil, nil}, slices.Repeat(lists{upTo(39)}, 39), lists{{39}})
		wantTable(t, name+", chain closed", rows, ok, want)
	}
}

func wantChainEnds(t *testing.T, name string, chain impl.Binary) {
	t.Helper()
	row, ok := impl.UnitRow(chain, token(3))
	wantList(t, name+" to a token", row, ok, upTo(39)...)
	row, ok = impl.UnitRow(chain, token(2))
	wantList(t, name+" to no token", row, ok)
	row, ok = impl.UnitRow(chain, 39)
	wantList(t, name+" beside", row, ok, 39)
}

// The greatest binary grammar there is.
func TestUnitsOfAllThereIs(t *testing.T) {
	b := fullBinary(40, 4)
	pairs, ok := impl.UnitPairs(b)
	wantTable(t, "full", pairs, ok, b.Ones)
	rows, ok := impl.UnitRows(b)
	wantTable(t, "full", rows, ok, slices.Repeat(lists{upTo(40)}, 44))
	wantRound(t, "full", b, true)
	b.Ones = nil
	pairs, ok = impl.UnitPairs(b)
	wantTable(t, "by Pairs alone", pairs, ok, fullLists(40, 4, 1))
	set, ok := impl.ClosedSet(b, []int{39})
	wantList(t, "by Pairs alone", set, ok, upTo(40)...)
	b.Empty = nil
	pairs, ok = impl.UnitPairs(b)
	wantTable(t, "nothing empty", pairs, ok, nil)
	rows, ok = impl.UnitRows(b)
	wantTable(t, "nothing empty", rows, ok, slices.Concat(make(lists, 4), eachAlone(40)))
	wantRound(t, "nothing empty", b, false)
}

func TestClosedSet(t *testing.T) {
	b := wantedBinary(grammarOf("6 1;S=A;A=B;C=D;D=E;E=C"))
	for set, want := range map[string]string{
		"": "", "S": "S", "A": "SA", "B": "SAB", "C": "CDE", "D": "CDE", "E": "CDE",
		"SA": "SA", "SB": "SAB", "SC": "SCDE", "AC": "SACDE", "BE": "SABCDE", "AB": "SAB", "CE": "CDE",
		"SAB": "SAB", "CDE": "CDE", "SDE": "SCDE", "SABCDE": "SABCDE",
	} {
		closed, ok := impl.ClosedSet(b, nonsOf(set))
		wantList(t, set, closed, ok, nonsOf(want)...)
	}
	for _, c := range unitCases() {
		b, rows := c.binary(), c.unitRows()
		for non := range b.Nons {
			closed, ok := impl.ClosedSet(b, []int{non})
			wantList(t, c.text, closed, ok, rows[b.Toks+non]...)
		}
		closed, ok := impl.ClosedSet(b, upTo(b.Nons))
		wantList(t, c.text+" all", closed, ok, upTo(b.Nons)...)
		closed, ok = impl.ClosedSet(b, nil)
		wantList(t, c.text+" none", closed, ok)
		closed, ok = impl.ClosedSet(b, []int{})
		wantList(t, c.text+" empty", closed, ok)
	}
	set := upTo(40)
	for i := range 41 {
		closed, ok := impl.ClosedSet(impl.Binary{Nons: 40, Toks: 1}, set[:i])
		wantList(t, "of 40", closed, ok, set[:i]...)
	}
}

// badSets are no rising lists of the nonterminals 0 to 3.
func badSets() lists {
	out := lists{
		{1, 0}, {3, 2}, {0, 2, 1}, {1, 2, 3, 0}, {0, 0}, {3, 3}, {0, 1, 1}, {0, 0, 1}, {1, 0, 1},
		{-1}, {-1, 0}, {-2, -1}, {0, -1}, {-5, 3}, {4}, {0, 4}, {0, 1, 2, 3, 4}, {3, 39}, {40}, {3, 41},
		{math.MinInt, 0}, {0, math.MaxInt}, {math.MinInt, math.MaxInt}, upTo(40), upTo(41), make([]int, 5000),
	}
	for _, x := range oddInts() {
		out = append(out, []int{x})
	}
	return out
}

func TestClosedSetOfNoRisingNonterminals(t *testing.T) {
	for _, b := range []impl.Binary{mixedBinary(), fullBinary(4, 4), {Nons: 4, Toks: 1}} {
		for _, set := range badSets() {
			closed, ok := impl.ClosedSet(b, set)
			wantNoList(t, "not rising", closed, ok)
		}
	}
	for nons := 1; nons <= 40; nons++ {
		b := impl.Binary{Nons: nons, Toks: 1, Ones: lists{{0, 0}}}
		closed, ok := impl.ClosedSet(b, []int{nons - 1})
		wantList(t, "the last one", closed, ok, nons-1)
		closed, ok = impl.ClosedSet(b, []int{nons})
		wantNoList(t, "one behind", closed, ok)
		closed, ok = impl.ClosedSet(b, upTo(nons+1))
		wantNoList(t, "all and one behind", closed, ok)
	}
}

func TestJoinRows(t *testing.T) {
	const least, most = math.MinInt, math.MaxInt
	for _, c := range []struct{ a, b, want []int }{
		{nil, nil, nil},
		{[]int{}, nil, nil},
		{[]int{0}, nil, []int{0}},
		{[]int{0, 2, 4}, nil, []int{0, 2, 4}},
		{[]int{0, 2, 4}, []int{0, 2, 4}, []int{0, 2, 4}},
		{[]int{0, 2}, []int{1}, []int{0, 1, 2}},
		{[]int{0, 2, 4}, []int{1, 3, 5}, []int{0, 1, 2, 3, 4, 5}},
		{[]int{0, 1}, []int{2, 3}, []int{0, 1, 2, 3}},
		{[]int{0, 1, 2}, []int{1, 2, 3}, []int{0, 1, 2, 3}},
		{[]int{0, 1, 2, 3}, []int{1, 2}, []int{0, 1, 2, 3}},
		{[]int{-3, -1}, []int{-2, 0}, []int{-3, -2, -1, 0}},
		{[]int{-1}, []int{1}, []int{-1, 1}},
		{[]int{least}, []int{most}, []int{least, most}},
		{[]int{least, most}, []int{0}, []int{least, 0, most}},
		{[]int{least, 0, most}, []int{least + 1, most - 1, most}, []int{least, least + 1, 0, most - 1, most}},
		{[]int{40, 1000}, []int{39, 41}, []int{39, 40, 41, 1000}},
	} {
		joined, ok := impl.JoinRows(c.a, c.b)
		wantList(t, "join", joined, ok, c.want...)
		joined, ok = impl.JoinRows(c.b, c.a)
		wantList(t, "join, the other way", joined, ok, c.want...)
	}
}

// Up to 40 numbers in each, and one more.
func TestJoinRowsHoldsTheLimit(t *testing.T) {
	even := make([]int, 45)
	for i := range even {
		even[i] = 2 * i
	}
	odd := make([]int, 45)
	for i := range odd {
		odd[i] = 2*i + 1
	}
	for i := range 46 {
		for k := range 46 {
			joined, ok := impl.JoinRows(even[:i], odd[:k])
			if i <= 40 && k <= 40 {
				wantList(t, "none in common", joined, ok, sorted(slices.Concat(even[:i], odd[:k]))...)
			} else {
				wantNoList(t, "too many", joined, ok)
			}
			joined, ok = impl.JoinRows(even[:i], even[:k])
			if i <= 40 && k <= 40 {
				wantList(t, "in common", joined, ok, even[:max(i, k)]...)
			} else {
				wantNoList(t, "too many", joined, ok)
			}
		}
	}
	joined, ok := impl.JoinRows(even[:40], odd[:40])
	wantList(t, "both at most", joined, ok, upTo(80)...)
}

func TestJoinRowsOfListsThatDoNotRise(t *testing.T) {
	for _, list := range [][]int{
		{1, 0}, {0, 0}, {-1, -1}, {0, 1, 1}, {0, 0, 1}, {0, 2, 1}, {1, 0, 2}, {1, 2, 0}, {0, -1},
		{math.MaxInt, math.MinInt}, {0, math.MinInt}, {math.MaxInt, 0}, {math.MinInt, math.MinInt},
		append(upTo(39), 38), append(upTo(39), 37), make([]int, 40), make([]int, 5000),
	} {
		for _, other := range [][]int{nil, {0}, {1, 2}, upTo(40), list} {
			joined, ok := impl.JoinRows(list, other)
			wantNoList(t, "first", joined, ok)
			joined, ok = impl.JoinRows(other, list)
			wantNoList(t, "second", joined, ok)
		}
	}
}

func TestUnitsOfBinariesThatAreNotGood(t *testing.T) {
	for name, b := range badBinaries() {
		for _, set := range [][]int{nil, {0}, {0, 1}, {1, 0}} {
			for _, x := range []int{-1, 0, 1} {
				wantNoUnits(t, name, b, set, x)
			}
		}
	}
}
