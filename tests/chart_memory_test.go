package tests

import (
	"math"
	"reflect"
	"slices"
	"testing"

	"loop.example/g00758/impl"
)

// chartArguments are what the functions of chapter 7 are asked.
type chartArguments struct {
	b           impl.Binary
	c           impl.Chart
	w           []int
	n, from, to int
}

// roomy gives the same arguments with more behind the lengths of all lists.
func (a chartArguments) roomy() chartArguments {
	a.b, a.c, a.w = roomyBinary(a.b), impl.Chart{N: a.c.N, Cells: roomyLists(a.c.Cells)}, roomy(a.w)
	return a
}

// picture copies the lists, also what is behind their lengths.
func (a chartArguments) picture() lists {
	picture := append(pictureOfBinary(a.b), []int{a.c.N, len(a.c.Cells), len(a.w)}, slices.Clone(whole(a.w)))
	for _, cell := range whole(a.c.Cells) {
		picture = append(picture, []int{len(cell)}, slices.Clone(whole(cell)))
	}
	return picture
}

type chartAnswers struct {
	told         []bool
	no, steps    int
	empty, full  impl.Chart
	cell, cellAt []int
}

func askCharts(a chartArguments) chartAnswers {
	var out chartAnswers
	var noOk, emptyOk, cellOk, fullOk, atOk, stepsOk bool
	out.no, noOk = impl.CellNo(a.n, a.from, a.to)
	out.empty, emptyOk = impl.EmptyChart(a.n)
	out.cell, cellOk = impl.CellFor(a.b, a.c, a.w, a.from, a.to)
	out.full, fullOk = impl.FillChart(a.b, a.w)
	out.cellAt, atOk = impl.CellAt(a.c, a.from, a.to)
	accepts, acceptsOk := impl.Accepts(a.b, a.w)
	out.steps, stepsOk = impl.JoinSteps(a.b, a.n)
	out.told = []bool{noOk, emptyOk, cellOk, fullOk, atOk, accepts, acceptsOk, stepsOk}
	return out
}

func sameCharts(a, b chartAnswers) bool {
	return slices.Equal(a.told, b.told) && a.no == b.no && a.steps == b.steps && sameChart(a.empty, b.empty) &&
		sameChart(a.full, b.full) && sameLists(lists{a.cell, a.cellAt}, lists{b.cell, b.cellAt})
}

// spoilCharts writes into all lists, and then into the lists of cells.
func spoilCharts(t *testing.T, name string, a chartAnswers) {
	t.Helper()
	checkApart(t, name, slices.Concat(a.empty.Cells, a.full.Cells, lists{a.cell, a.cellAt}))
	for i, cells := range []lists{a.empty.Cells, a.full.Cells} {
		for k, cell := range whole(cells) {
			if k >= len(cells) && cell != nil {
				t.Error(name, "hands out a cell behind a length")
			}
			whole(cells)[k] = []int{-77 - i}
		}
	}
	for i, cells := range []lists{a.empty.Cells, a.full.Cells} {
		for _, cell := range whole(cells) {
			if cell[0] != -77-i {
				t.Error(name, "lists of cells share memory")
			}
		}
	}
}

// eachChartArgument has arguments that fit each other, and those that do not.
func eachChartArgument(ask func(name string, a chartArguments)) {
	words := lists{nil, {0}, {0, 0}, {0, 1, 0}, {1, 0, 1, 0}, {-1, 0, 0, 0, 0}, {0, 4, 0}, make([]int, 10), make([]int, 11)}
	places := lists{{0, 1}, {1, 3}, {0, 3}, {0, 10}, {0, 0}, {2, 1}, {-1, 12}}
	for name, b := range everyBinary() {
		for n, w := range words {
			c := chartWith(min(len(w), 10), 0, 1, 39)
			ask(name, chartArguments{b, c, w, n, n / 3, len(w)})
			ask(name+", the first", chartArguments{b, chartWith(len(w)), w, n + 3, 0, 1})
		}
	}
	b := wantedBinary(grammarOf("2 2;S=aSA;S=SS;A=Ab;A=;S=b"))
	charts := goodCharts()
	for name, c := range badCharts() {
		charts["bad "+name] = c
	}
	for name, c := range charts {
		w := make([]int, min(max(c.N, 0), 11))
		for _, place := range places {
			ask(name, chartArguments{b, c, w, c.N, place[0], place[1]})
		}
	}
	for _, c := range chartCases() {
		ask("case", chartArguments{c.binary(), c.chart(), wordOf(c.word), len(c.word), 0, len(c.word)})
	}
}

// Promise 21.
func TestChartsNeitherChangeNorShareArguments(t *testing.T) {
	eachChartArgument(func(name string, plain chartArguments) {
		a := plain.roomy()
		before := a.picture()
		answers := askCharts(a)
		if !reflect.DeepEqual(before, a.picture()) {
			t.Fatal("an argument was changed:", name, plain)
		}
		spoilCharts(t, name, answers)
		if !reflect.DeepEqual(before, a.picture()) {
			t.Fatal("an answer shares memory with an argument:", name, plain)
		}
	})
}

func TestChartsDoNotReadBehindALength(t *testing.T) {
	eachChartArgument(func(name string, a chartArguments) {
		if tight, loose := askCharts(a), askCharts(a.roomy()); !sameCharts(tight, loose) {
			t.Fatal(name, a, tight, loose)
		}
	})
}

// What is behind a length must not show, though it would fit.
func TestChartsDoNotReadWhatFitsBehindALength(t *testing.T) {
	full, cells, word := fullBinary(3, 2), chartWith(4, 0, 1, 2).Cells, wordOf("abab")
	for n := range 5 {
		for cut := range 4 {
			b, c := copyOfBinary(full), impl.Chart{N: n, Cells: copyOfLists(cells)[:n*(n+1)/2]}
			b.Pairs, b.Ones, b.Empty = b.Pairs[:5*cut], b.Ones[:cut], b.Empty[:cut/2]
			plain := chartWith(n)
			for no := range c.Cells {
				c.Cells[no] = c.Cells[no][:cut]
				plain.Cells[no] = upTo(cut)
			}
			tight := impl.Binary{Nons: 3, Toks: 2, Pairs: slices.Clip(slices.Clone(full.Pairs[:5*cut])),
				Ones: slices.Clip(slices.Clone(full.Ones[:cut])), Empty: slices.Clip(slices.Clone(full.Empty[:cut/2]))}
			got := askCharts(chartArguments{b, c, word[:n], n, 0, n})
			want := askCharts(chartArguments{tight, plain, slices.Clip(slices.Clone(word[:n])), n, 0, n})
			if !sameCharts(got, want) || !got.told[3] || got.told[4] != (n > 0) {
				t.Error(n, cut, got, want)
			}
		}
	}
}

// Many calls, because what comes of a map's order shows at some of them only.
func TestChartsKeepNothingFromCallToCall(t *testing.T) {
	eachChartArgument(func(name string, a chartArguments) {
		want := askCharts(a)
		for range 2 {
			spoilCharts(t, name, askCharts(a))
			if !sameCharts(want, askCharts(a)) {
				t.Fatal("another answer at a later call:", name, a)
			}
		}
	})
	p := picker{53}
	for _, b := range pickedBinaries(60) {
		a := chartArguments{b, p.chart(4), p.word(b.Toks, 4), 4, 0, 4}
		want := askCharts(a)
		for range 20 {
			if !sameCharts(want, askCharts(a)) {
				t.Fatal("another answer at a later call:", a)
			}
		}
	}
}

// Lists of an argument may share memory; those of an answer may not.
func TestChartsOfListsThatShareMemory(t *testing.T) {
	numbers := []int{0, 0, 1, 2, 2, 3}
	b := impl.Binary{Nons: 4, Toks: 1, Pairs: lists{numbers[:3], numbers[1:4]}, Ones: lists{{0, -1}, {1, -1}, {2, -1}},
		Empty: numbers[5:], From: lists{numbers[:2], numbers[:2]}}
	c := impl.Chart{N: 2, Cells: lists{numbers[1:4], numbers[1:4], numbers[2:4]}}
	got := askCharts(chartArguments{b, c, numbers[:2], 2, 0, 2})
	want := chartAnswers{
		told: []bool{true, true, true, true, true, true, true, true}, no: 2, steps: 2, empty: chartWith(2),
		full: impl.Chart{N: 2, Cells: lists{{0, 1, 2}, {0, 1, 2}, {0}}}, cell: []int{0}, cellAt: []int{1, 2},
	}
	if !sameCharts(got, want) {
		t.Error(got, want)
	}
	spoilCharts(t, "shared", got)
	if !slices.Equal(numbers, []int{0, 0, 1, 2, 2, 3}) {
		t.Error("an argument was changed:", numbers)
	}
}

func TestNoChartPanics(t *testing.T) {
	defer func() {
		if p := recover(); p != nil {
			t.Error("panic:", p)
		}
	}()
	numbers := append(oddInts(), -5, -2, -1, 0, 1, 4, 9, 10, 11, 39, 40, 41)
	small := fullBinary(2, 2)
	for _, x := range numbers {
		for _, y := range numbers {
			for _, z := range numbers {
				list := []int{x, y, z}
				cells := lists{list, {y}, nil, {z, x}, {0}, nil}
				for long := range 4 {
					askCharts(chartArguments{small, impl.Chart{N: long, Cells: cells[:long*(long+1)/2]}, list[:long], x, y, z})
					askCharts(chartArguments{small, chartWith(long, 0, 39), make([]int, long), x, y, z})
				}
				askCharts(chartArguments{impl.Binary{Nons: x, Toks: y, Pairs: cells[:1], Empty: list}, impl.Chart{N: z, Cells: cells}, list, z, 0, 2})
				askCharts(chartArguments{impl.Binary{Nons: 40, Toks: 4, Ones: cells[1:2]}, impl.Chart{N: x}, nil, z, x, y})
			}
		}
	}
	huge := slices.Repeat([]int{math.MaxInt}, 100000)
	many := slices.Repeat(lists{{math.MinInt, math.MaxInt}}, 100000)
	askCharts(chartArguments{small, impl.Chart{N: math.MaxInt, Cells: many}, huge, math.MaxInt, math.MinInt, math.MaxInt})
	askCharts(chartArguments{small, impl.Chart{N: 10, Cells: many[:55]}, make([]int, 10), math.MinInt, math.MaxInt, math.MinInt})
	askCharts(chartArguments{small, impl.Chart{N: 1, Cells: lists{huge}}, []int{0}, 10, 0, 1})
}
