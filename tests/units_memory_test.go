package tests

import (
	"math"
	"reflect"
	"slices"
	"testing"

	"loop.example/g00758/impl"
)

// unitAnswers are what every function of chapter 6 tells of the same arguments.
type unitAnswers struct {
	told        []bool
	pairs, rows lists
	row, set    []int
	join, back  []int
}

// askUnits joins the set and another list in both orders.
func askUnits(b impl.Binary, x int, set, other []int) unitAnswers {
	var a unitAnswers
	var pairsOk, rowsOk, rowOk, setOk, joinOk, backOk bool
	a.pairs, pairsOk = impl.UnitPairs(b)
	a.rows, rowsOk = impl.UnitRows(b)
	a.row, rowOk = impl.UnitRow(b, x)
	a.set, setOk = impl.ClosedSet(b, set)
	a.join, joinOk = impl.JoinRows(set, other)
	a.back, backOk = impl.JoinRows(other, set)
	round, roundOk := impl.HasUnitRound(b)
	a.told = []bool{pairsOk, rowsOk, rowOk, setOk, joinOk, backOk, round, roundOk}
	return a
}

func sameUnits(a, b unitAnswers) bool {
	singles := func(x unitAnswers) lists { return lists{x.row, x.set, x.join, x.back} }
	return slices.Equal(a.told, b.told) && sameLists(a.pairs, b.pairs) && sameLists(a.rows, b.rows) &&
		sameLists(singles(a), singles(b))
}

// spoilUnits writes into all lists, and then into the lists of lists.
func spoilUnits(t *testing.T, name string, a unitAnswers) {
	t.Helper()
	checkApart(t, name, slices.Concat(a.pairs, a.rows, lists{a.row, a.set, a.join, a.back}))
	for _, table := range []lists{a.pairs, a.rows} {
		for k, list := range whole(table) {
			if k >= len(table) && list != nil {
				t.Error(name, "hands out a list behind a length")
			}
			whole(table)[k] = []int{-77}
		}
	}
}

// unitArguments has sets that fit many binary grammars, and those that fit none.
func unitArguments() []struct{ set, other []int } {
	return []struct{ set, other []int }{
		{nil, nil},
		{[]int{}, []int{0}},
		{[]int{0}, []int{}},
		{[]int{0}, []int{0}},
		{[]int{0, 2}, []int{1, 3}},
		{[]int{0, 1, 2, 3}, []int{-4, 2, math.MaxInt}},
		{upTo(40), upTo(40)},
		{upTo(41), []int{0}},
		{[]int{1, 0}, []int{0, 1}},
		{[]int{-1}, []int{0, 0}},
	}
}

func everyUnitBinary() map[string]impl.Binary {
	all := everyBinary()
	for _, c := range unitCases() {
		all["units "+c.text] = c.binary()
	}
	return all
}

func eachUnitArgument(ask func(name string, b impl.Binary, x int, set, other []int)) {
	for name, b := range everyUnitBinary() {
		for i, a := range unitArguments() {
			ask(name, b, i-4, a.set, a.other)
		}
	}
}

// Promise 21.
func TestUnitsNeitherChangeNorShareArguments(t *testing.T) {
	eachUnitArgument(func(name string, plain impl.Binary, x int, plainSet, plainOther []int) {
		b, set, other := roomyBinary(plain), roomy(plainSet), roomy(plainOther)
		before, sets := pictureOfBinary(b), copyOfLists(lists{whole(set), whole(other)})
		unchanged := func() bool {
			return reflect.DeepEqual(before, pictureOfBinary(b)) && sameLists(sets, lists{whole(set), whole(other)})
		}
		answers := askUnits(b, x, set, other)
		if !unchanged() {
			t.Fatal("an argument was changed:", name, x, set, other)
		}
		spoilUnits(t, name, answers)
		if !unchanged() {
			t.Fatal("an answer shares memory with an argument:", name, x, set, other)
		}
	})
}

func TestUnitsDoNotReadBehindALength(t *testing.T) {
	eachUnitArgument(func(name string, b impl.Binary, x int, set, other []int) {
		tight, loose := askUnits(b, x, set, other), askUnits(roomyBinary(b), x, roomy(set), roomy(other))
		if !sameUnits(tight, loose) {
			t.Fatal(name, x, set, other, tight, loose)
		}
	})
}

// What is behind a length must not show, though it would fit.
func TestUnitsDoNotReadWhatFitsBehindALength(t *testing.T) {
	full, set := wantedBinary(grammarOf("6 2;S=AB;A=BC;B=CA;S=A;A=b;B=C;C=a;C=;D=;E=")), upTo(6)
	for cut := range 4 {
		b := copyOfBinary(full)
		b.Pairs, b.Ones, b.Empty = b.Pairs[:cut], b.Ones[:cut], b.Empty[:max(cut-1, 0)]
		plain := impl.Binary{Nons: 6, Toks: 2, Pairs: slices.Clip(slices.Clone(full.Pairs[:cut])), Ones: slices.Clip(slices.Clone(full.Ones[:cut])),
			Empty: slices.Clip(slices.Clone(full.Empty[:max(cut-1, 0)]))}
		for x := range 6 {
			got := askUnits(b, x, set[:x], set[x:x+cut/2])
			want := askUnits(plain, x, upTo(x), slices.Clone(set[x:x+cut/2]))
			if !sameUnits(got, want) || !got.told[0] || len(got.join) != x+cut/2 {
				t.Error(cut, x, got, want)
			}
		}
	}
}

// Many calls, because what comes of a map's order shows at some of them only.
func TestUnitsKeepNothingFromCallToCall(t *testing.T) {
	eachUnitArgument(func(name string, b impl.Binary, x int, set, other []int) {
		want := askUnits(b, x, set, other)
		for range 3 {
			spoilUnits(t, name, askUnits(b, x, set, other))
			if !sameUnits(want, askUnits(b, x, set, other)) {
				t.Fatal("another answer at a later call:", name, x, set, other)
			}
		}
	})
	for _, b := range pickedBinaries(100) {
		want := askUnits(b, 0, []int{0}, nil)
		for range 20 {
			if !sameUnits(want, askUnits(b, 0, []int{0}, nil)) {
				t.Fatal("another answer at a later call:", b)
			}
		}
	}
}

// Lists of an argument may share memory; those of an answer may not.
func TestUnitsOfListsThatShareMemory(t *testing.T) {
	numbers := []int{0, 1, 2, 2, 3}
	b := impl.Binary{Nons: 4, Toks: 1, Pairs: lists{numbers[:3], numbers[1:4]}, Ones: lists{numbers[:2], numbers[1:3], numbers[2:4]},
		Empty: numbers[3:], From: lists{numbers[:2], numbers[:2]}}
	got := askUnits(b, 2, numbers[:3], numbers[:3])
	want := unitAnswers{
		told:  []bool{true, true, true, true, true, true, true, true},
		pairs: lists{{0, 1}, {0, 2}, {1, 2}, {2, 2}},
		rows:  lists{nil, {0}, {0, 1}, {0, 1, 2}, {3}},
		row:   []int{0, 1, 2}, set: []int{0, 1, 2}, join: []int{0, 1, 2}, back: []int{0, 1, 2},
	}
	if !sameUnits(got, want) {
		t.Error(got, want)
	}
	spoilUnits(t, "shared", got)
	if !slices.Equal(numbers, []int{0, 1, 2, 2, 3}) {
		t.Error("an argument was changed:", numbers)
	}
}

func TestNoUnitsPanic(t *testing.T) {
	defer func() {
		if p := recover(); p != nil {
			t.Error("panic:", p)
		}
	}()
	numbers := append(oddInts(), -5, -4, -2, -1, 0, 1, 4, 5, 6, 39, 40, 41)
	for _, b := range everyUnitBinary() {
		for _, x := range numbers {
			askUnits(b, x, []int{x}, []int{0, x})
		}
	}
	for _, x := range numbers {
		for _, y := range numbers {
			for _, z := range numbers {
				for long := range 4 {
					list := []int{x, y, z}[:long]
					table := lists{list, {y, z, x}, nil}
					askUnits(impl.Binary{Nons: x, Toks: y, Pairs: lists{list}, Ones: lists{list}, Empty: list, From: lists{list}}, z, list, table[1])
					askUnits(impl.Binary{Nons: 40, Toks: 4, Pairs: table[:1], Ones: table[:1], Empty: list, From: table[:1]}, z, list, list)
					askUnits(impl.Binary{Nons: 40, Toks: 4, Pairs: table, Ones: table, Empty: list, From: table}, z, table[1], list)
				}
			}
		}
	}
	many := slices.Repeat(lists{{math.MinInt, math.MaxInt}}, 100000)
	huge := slices.Repeat([]int{math.MaxInt}, 100000)
	askUnits(impl.Binary{Nons: 40, Toks: 4, Pairs: many, Ones: many, Empty: huge, From: many}, math.MinInt, huge, huge)
	askUnits(impl.Binary{Nons: 40, Toks: 4}, math.MaxInt, huge, nil)
}
