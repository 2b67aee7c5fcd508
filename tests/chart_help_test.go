package tests

import (
	"math"
	"slices"
	"strings"
	"testing"

	"loop.example/g00758/impl"
)

// cellPlaces has from and to of each cell, put in order by how long it is.
func cellPlaces(n int) lists {
	var out lists
	for from := range n + 1 {
		for to := range n + 1 {
			if from < to {
				out = append(out, []int{from, to})
			}
		}
	}
	slices.SortFunc(out, func(a, b []int) int {
		return slices.Compare([]int{a[1] - a[0], a[0]}, []int{b[1] - b[0], b[0]})
	})
	return out
}

// placeOf tells where a cell stands, -1 where there is none.
func placeOf(n, from, to int) int {
	return slices.IndexFunc(cellPlaces(n), func(place []int) bool { return place[0] == from && place[1] == to })
}

// cellIn finds a cell by the tests' own reading.
func cellIn(c impl.Chart, from, to int) []int { return c.Cells[placeOf(c.N, from, to)] }

// chartWith has the same in all cells, each a list of its own.
func chartWith(n int, cell ...int) impl.Chart {
	c := impl.Chart{N: n}
	for range cellPlaces(n) {
		c.Cells = append(c.Cells, slices.Clone(cell))
	}
	return c
}

func copyOfChart(c impl.Chart) impl.Chart {
	return impl.Chart{N: c.N, Cells: copyOfLists(c.Cells)}
}

func sameChart(a, b impl.Chart) bool {
	return a.N == b.N && sameLists(a.Cells, b.Cells)
}

func wantChart(t *testing.T, name string, got impl.Chart, ok bool, want impl.Chart) {
	t.Helper()
	if !ok || !sameChart(got, want) {
		t.Errorf("%s: got %+v, %v; want %+v, true", name, got, ok, want)
	}
}

func wantNoChart(t *testing.T, name string, got impl.Chart, ok bool) {
	t.Helper()
	if ok || !sameChart(got, impl.Chart{}) {
		t.Errorf("%s: got %+v, %v; want the zero answer", name, got, ok)
	}
}

func wantNoNumber(t *testing.T, name string, got int, ok bool) {
	t.Helper()
	if got != 0 || ok {
		t.Errorf("%s: got %v, %v; want the zero answer", name, got, ok)
	}
}

// chartCase is a grammar, a word, and the cells of the chart for them by
// letters and written by hand: a comma between two of them, a bar where the
// next ones are longer. The letters of helpers come behind those of the others.
type chartCase struct {
	text, word, cells string
}

func (c chartCase) binary() impl.Binary { return wantedBinary(grammarOf(c.text)) }

func (c chartCase) chart() impl.Chart {
	out := impl.Chart{N: len(c.word)}
	if c.word == "" {
		return out
	}
	for _, letters := range strings.Split(strings.ReplaceAll(c.cells, "|", ","), ",") {
		out.Cells = append(out.Cells, nonsOf(letters))
	}
	return out
}

func chartCases() []chartCase {
	cases := append(pairCases(), placeCases()...)
	cases = append(cases, unitChartCases()...)
	return append(cases, emptyChartCases()...)
}

func pairCases() []chartCase {
	const pairs = "1 2;S=aSb;S="
	return []chartCase{
		{pairs, "", ""},
		{pairs, "a", ""},
		{pairs, "b", "A"},
		{pairs, "ab", ",A|S"},
		{pairs, "ba", "A,|"},
		{pairs, "abb", ",A,A|S,|A"},
		{pairs, "aab", ",,A|,S|"},
		{pairs, "aabb", ",,A,A|,S,|,A|S"},
		{pairs, "abab", ",A,,A|S,,S|,|"},
		{"1 1;S=SS;S=a", "a", "S"},
		{"1 1;S=SS;S=a", "aaa", "S,S,S|S,S|S"},
		{"1 1;S=SS;S=a", "aaaa", "S,S,S,S|S,S,S|S,S|S"},
		{"2 2;S=AA;A=a;A=b", "aba", "A,A,A|S,S|"},
		{"1 2;S=SS;S=aSb;S=", "abab", ",A,,A|S,,S|,|S"},
		{"1 2;S=aSa;S=b", "aabaa", ",,S,,|,,A,|,S,|,A|S"},
		{"6 4;E=Db;D=c;C=dd", "ccbdd", "D,D,,,|,E,,C|,,|,|"},
		{"1 1", "aa", ",|"},
		{"6 4", "abcd", ",,,|,,|,|"},
	}
}

// placeCases are of the places between, and of tokens there.
func placeCases() []chartCase {
	return []chartCase{
		{"1 2;S=ab", "ab", ",|S"},
		{"1 2;S=ab", "ba", ",|"},
		{"1 2;S=aa", "aba", ",,|,|"},
		{"2 2;S=aA;A=b", "ab", ",A|S"},
		{"2 2;S=Ab;A=a", "ab", "A,|S"},
		{"2 2;S=aA;A=b", "ba", "A,|"},
		{"2 2;S=aA;A=b", "aab", ",,A|,S|"},
		{"2 2;S=Ab;A=a", "abb", "A,,|S,|"},
		{"3 2;S=AB;A=a;B=b", "ab", "A,B|S"},
		{"3 2;S=AB;A=a;B=b", "ba", "B,A|"},
		{"4 2;S=AB;A=a;B=CC;C=b", "abb", "A,C,C|,B|S"},
		{"4 2;S=AB;B=b;A=CC;C=a", "aab", "C,C,B|A,|S"},
		{"3 2;S=aB;B=aa", "aaa", ",,|B,B|S"},
		{"3 2;S=Ba;B=aa", "aaa", ",,|B,B|S"},
		{"3 1;S=aB;A=Ba;B=aa", "aaa", ",,|B,B|SA"},
		{"2 1;S=AS;S=a;A=a;A=aa", "aaa", "SA,SA,SA|SA,SA|S"},
		{"4 2;S=AB;S=BA;A=a;B=b;C=AB;C=AA", "aba", "A,B,A|SC,S|"},
		{"3 2;S=BA;A=a;A=bb;B=AA;B=b", "abb", "A,B,B|,A|B"},
	}
}

// unitChartCases have cells that are larger for what stands for their members.
func unitChartCases() []chartCase {
	return []chartCase{
		{"3 2;S=A;A=B;B=ab", "ab", ",|SAB"},
		{"3 2;S=A;A=B;B=a", "a", "SAB"},
		{"3 2;B=A;A=S;S=ab", "ab", ",|SAB"},
		{"3 2;S=A;A=S;A=BB;B=b", "bb", "B,B|SA"},
		{"4 2;S=A;B=A;A=CC;C=a", "aa", "C,C|SAB"},
		{"4 2;S=AC;B=A;A=BC;C=a;B=a", "aaa", "BC,BC,BC|AB,AB|SAB"},
		{"4 2;S=A;S=B;A=ab;B=ba;C=S", "aba", ",,|SAC,SBC|"},
		{"3 2;S=AA;A=B;B=AA;B=a", "aaa", "AB,AB,AB|SAB,SAB|SAB"},
		{"2 1;S=A;A=S", "aa", ",|"},
		{"2 1;S=A;A=S;A=aa;A=a", "aa", "SA,SA|SA"},
	}
}

// emptyChartCases have what derives the empty word beside what is in a cell.
func emptyChartCases() []chartCase {
	return []chartCase{
		{"3 2;S=AB;A=;A=a;B=b", "b", "SB"},
		{"3 2;S=AB;A=;A=a;B=b", "ab", "A,SB|S"},
		{"4 2;S=AB;A=CC;C=a;B=", "aa", "C,C|SA"},
		{"4 2;S=BA;A=CC;C=a;B=", "aa", "C,C|SA"},
		{"2 2;S=AA;A=ab;A=", "ab", ",|SA"},
		{"2 2;S=AA;A=ab;A=", "abab", ",,,|SA,,SA|,|S"},
		{"2 2;S=AA;A=ab", "ab", ",|A"},
		{"3 1;S=AB;A=S;A=aa;B=", "aa", ",|SA"},
		{"1 1;S=SS;S=", "a", ""},
		{"1 1;S=SS;S=;S=aa", "aaaa", ",,,|S,S,S|,|S"},
		{"2 2;S=ASb;A=;S=a", "ab", "S,|SB"},
	}
}

// symbolAt tells whether a symbol is in a cell, or is the one token there.
func symbolAt(c impl.Chart, w []int, x, from, to int) bool {
	return slices.Contains(cellIn(c, from, to), x) || to-from == 1 && token(w[from]) == x
}

// closedBy adds what stands for a member, pair by pair, as long as there is any.
func closedBy(unitPairs lists, set []int) []int {
	set = slices.Compact(sorted(slices.Clone(set)))
	for _, pair := range unitPairs {
		if slices.Contains(set, pair[1]) && !slices.Contains(set, pair[0]) {
			return closedBy(unitPairs, append(set, pair[0]))
		}
	}
	return set
}

// wantedCell is for good arguments, by the words of the document and the tests'
// own pairs of what stands for what.
func wantedCell(b impl.Binary, c impl.Chart, w []int, from, to int) []int {
	pairs := wantedUnitPairs(b)
	if to-from == 1 {
		var direct []int
		for _, pair := range pairs {
			if pair[1] == token(w[from]) {
				direct = append(direct, pair[0])
			}
		}
		return closedBy(pairs, direct)
	}
	var lefts []int
	for _, pair := range b.Pairs {
		for between := from + 1; between < to; between++ {
			if symbolAt(c, w, pair[1], from, between) && symbolAt(c, w, pair[2], between, to) {
				lefts = append(lefts, pair[0])
			}
		}
	}
	return closedBy(pairs, lefts)
}

func (p *picker) word(toks, long int) []int {
	w := make([]int, long)
	for at := range w {
		w[at] = p.pick(toks)
	}
	return w
}

// rising has each of the numbers less than count, or one of a few of them.
func (p *picker) rising(count, oneOf int) []int {
	list := []int{}
	for x := range count {
		if p.pick(oneOf) == 0 {
			list = append(list, x)
		}
	}
	return list
}

// chart has cells with many numbers and with few, that may all be too great for
// a binary grammar.
func (p *picker) chart(n int) impl.Chart {
	c := impl.Chart{N: n}
	for range cellPlaces(n) {
		c.Cells = append(c.Cells, p.rising(40, 2+p.pick(12)))
	}
	return c
}

// goodCharts are ordinary ones and those that meet a limit exactly, by name.
func goodCharts() map[string]impl.Chart {
	good := map[string]impl.Chart{
		"zero value":        {},
		"no cells":          {Cells: lists{}},
		"one empty cell":    {N: 1, Cells: lists{nil}},
		"one cell":          {N: 1, Cells: lists{{0}}},
		"the greatest":      {N: 1, Cells: lists{{39}}},
		"both ends":         {N: 1, Cells: lists{{0, 39}}},
		"a full cell":       {N: 1, Cells: lists{upTo(40)}},
		"three cells":       {N: 2, Cells: lists{{0}, {1, 2}, {}}},
		"most, empty":       chartWith(10),
		"most, full":        chartWith(10, upTo(40)...),
		"most but one":      chartWith(9, 3, 7),
		"each another list": {N: 4, Cells: eachAlone(10)},
	}
	for _, c := range chartCases() {
		good["case "+c.text+" "+c.word] = c.chart()
	}
	return good
}

// badCharts each break one demand of the document, by name.
func badCharts() map[string]impl.Chart {
	bad := map[string]impl.Chart{"N alone": {N: 1}, "a cell alone": {Cells: lists{nil}}}
	for _, x := range append(oddInts(), -1, 11, 12) {
		bad["N of "+numberText(x)] = impl.Chart{N: x}
		bad["N of "+numberText(x)+", as many cells as for 10"] = impl.Chart{N: x, Cells: make(lists, 55)}
	}
	bad["N of -1, one cell"] = impl.Chart{N: -1, Cells: make(lists, 1)}
	bad["N of -2, one cell"] = impl.Chart{N: -2, Cells: make(lists, 1)}
	bad["N of 11, all cells"] = impl.Chart{N: 11, Cells: make(lists, 66)}
	for n := range 11 {
		c := chartWith(n, 1)
		bad["one more for "+numberText(n)] = impl.Chart{N: n, Cells: slices.Concat(c.Cells, lists{nil})}
		bad["as many as for 11 of "+numberText(n)] = impl.Chart{N: n, Cells: make(lists, 66)}
		if n > 0 {
			bad["one fewer for "+numberText(n)] = impl.Chart{N: n, Cells: c.Cells[1:]}
			bad["none for "+numberText(n)] = impl.Chart{N: n}
		}
	}
	for name, cell := range badCells() {
		bad["alone: "+name] = impl.Chart{N: 1, Cells: lists{cell}}
		for at := range 6 {
			c := chartWith(3, 0)
			c.Cells[at] = cell
			bad["at "+numberText(at)+" of 6: "+name] = c
		}
	}
	return bad
}

func badCells() map[string][]int {
	bad := map[string][]int{
		"falls": {1, 0}, "twice": {1, 1}, "falls at the end": {0, 1, 2, 1}, "twice at the end": {0, 39, 39}, "zero twice": {0, 0},
		"-1 ahead": {-1, 0}, "-1 behind": {0, -1}, "40 behind": {0, 40}, "41 numbers": upTo(41), "least ahead": {math.MinInt, 0},
		"greatest behind": {0, math.MaxInt}, "both ends": {math.MinInt, math.MaxInt}, "many": make([]int, 5000),
	}
	for _, x := range append(oddInts(), -5, -1, 40, 41) {
		if x != 17 {
			bad[numberText(x)+" alone"] = []int{x}
		}
	}
	return bad
}

// badWords are none of two tokens.
func badWords() lists {
	out := lists{make([]int, 11), make([]int, 12), make([]int, 5000), {-1}, {2}, {0, 2}, {0, -1}, {3}, {0, 1, 2, 1}}
	for _, x := range oddInts() {
		out = append(out, []int{x}, []int{0, 1, x})
	}
	return append(out, append(make([]int, 9), 2))
}

// noCells are from and to of no cell of a chart for n tokens.
func noCells(n int) lists {
	var out lists
	numbers := append(oddInts(), upTo(13)...)
	numbers = append(numbers, -2, -1)
	for _, from := range numbers {
		for _, to := range numbers {
			if placeOf(n, from, to) < 0 {
				out = append(out, []int{from, to})
			}
		}
	}
	return out
}
