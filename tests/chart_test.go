package tests

import (
	"slices"
	"testing"

	"loop.example/g00758/impl"
)

// Each number comes once, in the order in which the cells stand.
func TestCellNo(t *testing.T) {
	for n := range 11 {
		for no, place := range cellPlaces(n) {
			got, ok := impl.CellNo(n, place[0], place[1])
			wantSize(t, numberText(n)+" cell", got, ok, no)
		}
		for _, place := range noCells(n) {
			got, ok := impl.CellNo(n, place[0], place[1])
			wantNoNumber(t, numberText(n)+" no cell", got, ok)
		}
	}
	for _, c := range [][4]int{
		{1, 0, 1, 0}, {2, 0, 1, 0}, {2, 1, 2, 1}, {2, 0, 2, 2}, {3, 2, 3, 2}, {3, 0, 2, 3}, {3, 1, 3, 4}, {3, 0, 3, 5},
		{4, 3, 4, 3}, {4, 0, 3, 7}, {4, 0, 4, 9}, {10, 9, 10, 9}, {10, 0, 2, 10}, {10, 8, 10, 18}, {10, 0, 9, 52}, {10, 1, 10, 53}, {10, 0, 10, 54},
	} {
		got, ok := impl.CellNo(c[0], c[1], c[2])
		wantSize(t, "by hand", got, ok, c[3])
	}
}

func TestCellNoWithoutAWord(t *testing.T) {
	for _, n := range append(oddInts(), -2, -1, 0, 11, 12) {
		for _, place := range slices.Concat(cellPlaces(12), noCells(4)) {
			got, ok := impl.CellNo(n, place[0], place[1])
			wantNoNumber(t, "n of "+numberText(n), got, ok)
		}
		got, ok := impl.CellNo(n, 0, n)
		wantNoNumber(t, "n of "+numberText(n), got, ok)
	}
}

func TestEmptyChart(t *testing.T) {
	for n, count := range []int{0, 1, 3, 6, 10, 15, 21, 28, 36, 45, 55} {
		c, ok := impl.EmptyChart(n)
		wantChart(t, numberText(n), c, ok, impl.Chart{N: n, Cells: make(lists, count)})
	}
	for _, n := range append(oddInts(), -2, -1, 11, 12) {
		c, ok := impl.EmptyChart(n)
		wantNoChart(t, numberText(n), c, ok)
	}
}

func TestCellAt(t *testing.T) {
	for name, c := range goodCharts() {
		for no, place := range cellPlaces(c.N) {
			cell, ok := impl.CellAt(c, place[0], place[1])
			wantList(t, name, cell, ok, c.Cells[no]...)
		}
		for _, place := range noCells(c.N) {
			cell, ok := impl.CellAt(c, place[0], place[1])
			wantNoList(t, name, cell, ok)
		}
	}
	c := impl.Chart{N: 3, Cells: lists{{0}, {1}, {2}, {3, 4}, {}, {0, 39}}}
	for place, want := range map[[2]int][]int{{0, 1}: {0}, {1, 2}: {1}, {2, 3}: {2}, {0, 2}: {3, 4}, {1, 3}: {}, {0, 3}: {0, 39}} {
		cell, ok := impl.CellAt(c, place[0], place[1])
		wantList(t, "by hand", cell, ok, want...)
	}
}

func TestCellAtOfChartsThatAreNotGood(t *testing.T) {
	for name, c := range badCharts() {
		for _, place := range cellPlaces(11) {
			cell, ok := impl.CellAt(c, place[0], place[1])
			wantNoList(t, name, cell, ok)
		}
	}
}

func TestFillChart(t *testing.T) {
	for _, c := range chartCases() {
		got, ok := impl.FillChart(c.binary(), wordOf(c.word))
		wantChart(t, c.text+" "+c.word, got, ok, c.chart())
	}
}

func TestFillChartOfMaxWordTokens(t *testing.T) {
	twice := wantedBinary(grammarOf("1 1;S=SS;S=a"))
	c, ok := impl.FillChart(twice, make([]int, 10))
	wantChart(t, "twice", c, ok, chartWith(10, 0))
	pairs := wantedBinary(grammarOf("1 2;S=aSb;S="))
	c, ok = impl.FillChart(pairs, wordOf("aaaaabbbbb"))
	want := chartWith(10)
	for half := range 6 {
		if half > 0 {
			want.Cells[placeOf(10, 5-half, 5+half)] = []int{0}
		}
		if half < 5 {
			want.Cells[placeOf(10, 5-half, 6+half)] = []int{1}
		}
	}
	for at := 5; at < 10; at++ {
		want.Cells[at] = []int{1}
	}
	wantChart(t, "pairs", c, ok, want)
	for _, long := range []int{11, 12, 5000} {
		c, ok = impl.FillChart(twice, make([]int, long))
		wantNoChart(t, "too long", c, ok)
	}
}

// The cells of a chart that is filled already are as CellFor tells from it, and
// so is each one from what was filled ahead of it.
func TestFillChartCellByCell(t *testing.T) {
	for _, c := range chartCases() {
		b, w, full := c.binary(), wordOf(c.word), c.chart()
		soFar := chartWith(full.N)
		for no, place := range cellPlaces(full.N) {
			for _, chart := range []impl.Chart{full, soFar} {
				cell, ok := impl.CellFor(b, chart, w, place[0], place[1])
				wantList(t, c.text+" "+c.word, cell, ok, full.Cells[no]...)
			}
			soFar.Cells[no] = slices.Clone(full.Cells[no])
		}
	}
}

// The greatest binary grammar there is, and one with all Pairs.
func TestFillChartOfAllThereIs(t *testing.T) {
	b := fullBinary(40, 4)
	w := []int{0, 1, 2, 3, 3, 2, 1, 0, 0, 3}
	c, ok := impl.FillChart(b, w)
	wantChart(t, "full", c, ok, chartWith(10, upTo(40)...))
	b.Ones, b.Empty = nil, nil
	c, ok = impl.FillChart(b, w)
	want := chartWith(10, upTo(40)...)
	for at := range 10 {
		want.Cells[at] = nil
	}
	for from := range 8 {
		want.Cells[placeOf(10, from, from+3)] = upTo(40)
	}
	wantChart(t, "Pairs alone", c, ok, want)
	b.Pairs = nil
	c, ok = impl.FillChart(b, w)
	wantChart(t, "nothing", c, ok, chartWith(10))
}

// helpersBinary has more nonterminals than a grammar can.
func helpersBinary() impl.Binary {
	return impl.Binary{Nons: 40, Toks: 4, Pairs: lists{{0, 38, 39}, {37, -4, 38}}, Ones: lists{{36, 0}, {38, -4}, {39, -1}}, Empty: []int{35}}
}

func TestFillChartOfManyNonterminals(t *testing.T) {
	c, ok := impl.FillChart(helpersBinary(), []int{3, 0})
	wantChart(t, "two", c, ok, impl.Chart{N: 2, Cells: lists{{38}, {39}, {0, 36}}})
	c, ok = impl.FillChart(helpersBinary(), []int{3, 3})
	wantChart(t, "two alike", c, ok, impl.Chart{N: 2, Cells: lists{{38}, {38}, {37}}})
}

// What the chart tells is taken, though it may not be derived.
func TestCellForFromAnyChart(t *testing.T) {
	b := wantedBinary(grammarOf("5 2;S=AB;A=aB;B=Ab;C=ab;C=S;D=C;D=CC"))
	for _, c := range []struct{ ahead, behind, word, want string }{
		{"A", "B", "aa", "SACD"}, {"B", "A", "aa", ""}, {"A", "", "aa", ""}, {"", "B", "aa", "A"}, {"", "B", "ba", ""},
		{"A", "", "ab", "BCD"}, {"", "", "ab", "CD"}, {"", "", "ba", ""}, {"", "", "aa", ""}, {"", "", "bb", ""},
		{"A", "A", "bb", "B"}, {"C", "C", "bb", "D"}, {"SABCD", "SABCD", "bb", "SBCD"}, {"SABCD", "SABCD", "ab", "SABCD"},
		{"SD", "SD", "bb", ""}, {"D", "B", "aa", "A"},
	} {
		chart := impl.Chart{N: 2, Cells: lists{nonsOf(c.ahead), nonsOf(c.behind), nil}}
		cell, ok := impl.CellFor(b, chart, wordOf(c.word), 0, 2)
		wantList(t, c.ahead+" "+c.behind+" "+c.word, cell, ok, nonsOf(c.want)...)
		inner := chartWith(4)
		inner.Cells[1], inner.Cells[2] = nonsOf(c.ahead), nonsOf(c.behind)
		cell, ok = impl.CellFor(b, inner, wordOf("b"+c.word+"a"), 1, 3)
		wantList(t, "inner "+c.ahead+" "+c.behind+" "+c.word, cell, ok, nonsOf(c.want)...)
	}
}

// Each place between is looked at, and no other cells but those on both its sides.
func TestCellForTakesEachPlaceBetween(t *testing.T) {
	b := impl.Binary{Nons: 3, Toks: 1, Pairs: lists{{0, 1, 2}}}
	w, places := make([]int, 10), cellPlaces(10)
	for _, place := range places {
		from, to := place[0], place[1]
		for i, first := range places {
			for k, second := range places {
				c := impl.Chart{N: 10, Cells: make(lists, 55)}
				c.Cells[k] = []int{2}
				c.Cells[i] = append([]int{1}, c.Cells[i]...)
				var want []int
				if first[0] == from && first[1] == second[0] && second[1] == to {
					want = []int{0}
				}
				cell, ok := impl.CellFor(b, c, w, from, to)
				if !ok || !slices.Equal(cell, want) {
					t.Fatal(place, first, second, cell, ok, want)
				}
			}
		}
	}
}

// One token alone is told by the word, whatever the chart has.
func TestCellForOneToken(t *testing.T) {
	for _, u := range unitCases() {
		b, rows := u.binary(), u.unitRows()
		w := append(upTo(b.Toks), 0, b.Toks-1)
		for _, c := range []impl.Chart{chartWith(len(w)), chartWith(len(w), 0), chartWith(len(w), upTo(40)...)} {
			for at, tok := range w {
				cell, ok := impl.CellFor(b, c, w, at, at+1)
				wantList(t, u.text, cell, ok, rows[b.Toks-1-tok]...)
			}
		}
	}
}

// A token is taken where it stands alone between two places, and only there.
func TestCellForTokensBesideAPlace(t *testing.T) {
	b := impl.Binary{Nons: 5, Toks: 2, Pairs: lists{{0, -2, -1}, {1, -1, 4}, {2, 4, -2}, {3, -1, -1}}}
	for _, c := range []struct {
		word string
		four lists
		want []int
	}{
		{"ba", nil, []int{0}}, {"ab", nil, nil}, {"aa", nil, []int{3}}, {"bb", nil, nil},
		{"ab", lists{{1, 2}}, []int{1}}, {"ab", lists{{0, 1}}, []int{2}}, {"ab", lists{{0, 1}, {1, 2}}, []int{1, 2}}, {"ba", lists{{0, 1}, {1, 2}}, []int{0}},
		{"baa", nil, nil}, {"bba", nil, nil}, {"aaa", nil, nil},
		{"abb", lists{{1, 3}}, []int{1}}, {"bbb", lists{{1, 3}}, nil}, {"abb", lists{{2, 3}}, nil},
		{"aab", lists{{0, 2}}, []int{2}}, {"aaa", lists{{0, 2}}, nil}, {"aab", lists{{0, 1}}, nil},
		{"aab", lists{{0, 2}, {1, 3}}, []int{1, 2}}, {"aab", lists{{0, 1}, {1, 2}, {2, 3}, {0, 3}}, nil},
		{"abab", lists{{1, 4}, {0, 3}}, []int{1, 2}}, {"abab", lists{{0, 2}, {2, 4}}, nil},
	} {
		w := wordOf(c.word)
		chart := chartWith(len(w))
		for _, place := range c.four {
			chart.Cells[placeOf(len(w), place[0], place[1])] = []int{4}
		}
		cell, ok := impl.CellFor(b, chart, w, 0, len(w))
		wantList(t, c.word, cell, ok, c.want...)
	}
}

func wantNoCharts(t *testing.T, name string, b impl.Binary, w []int) {
	t.Helper()
	c, ok := impl.FillChart(b, w)
	wantNoChart(t, name+" FillChart", c, ok)
	is, ok := impl.Accepts(b, w)
	wantNotTold(t, name+" Accepts", is, ok)
	for _, n := range []int{min(len(w), 10), 1, 2} {
		for _, place := range slices.Concat(cellPlaces(n), lists{{0, 0}}) {
			cell, ok := impl.CellFor(b, chartWith(n, 0), w, place[0], place[1])
			wantNoList(t, name+" CellFor", cell, ok)
		}
	}
}

func TestChartsOfBinariesThatAreNotGood(t *testing.T) {
	for name, b := range badBinaries() {
		for _, w := range [][]int{nil, {0}, {0, 0}, {0, 1}} {
			wantNoCharts(t, name, b, w)
		}
		for n := -1; n < 12; n++ {
			steps, ok := impl.JoinSteps(b, n)
			wantNoNumber(t, name+" JoinSteps", steps, ok)
		}
	}
}

func TestChartsOfListsThatAreNoWord(t *testing.T) {
	for _, b := range []impl.Binary{fullBinary(3, 2), wantedBinary(grammarOf("1 2;S=aSb;S=")), {Nons: 40, Toks: 2}} {
		for _, w := range badWords() {
			wantNoCharts(t, "no word", b, w)
		}
	}
	for toks := 1; toks <= 4; toks++ {
		b := fullBinary(2, toks)
		c, ok := impl.FillChart(b, []int{toks - 1})
		wantChart(t, "the last token", c, ok, chartWith(1, 0, 1))
		wantNoCharts(t, "one behind", b, []int{toks})
		wantNoCharts(t, "one behind at the end", b, []int{0, toks})
	}
}

func TestCellForOfChartsThatAreNotGood(t *testing.T) {
	b := fullBinary(2, 1)
	for name, c := range badCharts() {
		for _, n := range []int{c.N, 1, 3, 10} {
			w := make([]int, min(max(n, 0), 12))
			for _, place := range cellPlaces(len(w)) {
				cell, ok := impl.CellFor(b, c, w, place[0], place[1])
				wantNoList(t, name, cell, ok)
			}
		}
	}
}

func TestCellForWithAChartOfAnotherLength(t *testing.T) {
	b := fullBinary(2, 1)
	for n := range 11 {
		for long := range 12 {
			for _, place := range cellPlaces(max(n, long)) {
				cell, ok := impl.CellFor(b, chartWith(n, 0), make([]int, long), place[0], place[1])
				if n == long {
					wantList(t, "the same", cell, ok, 0, 1)
				} else {
					wantNoList(t, "another", cell, ok)
				}
			}
		}
	}
}

func TestCellForOfNoCell(t *testing.T) {
	b := fullBinary(2, 1)
	for n := range 11 {
		for _, place := range noCells(n) {
			cell, ok := impl.CellFor(b, chartWith(n, 0), make([]int, n), place[0], place[1])
			wantNoList(t, "no cell", cell, ok)
		}
	}
}

func TestAccepts(t *testing.T) {
	for _, c := range deriveCases() {
		if c.symbols != "S" {
			continue
		}
		c.check(t, func(g impl.Grammar, w []int) (bool, bool) { return impl.Accepts(wantedBinary(g), w) })
	}
	for _, c := range chartCases() {
		want := c.word != "" && slices.Contains(cellIn(c.chart(), 0, len(c.word)), 0)
		if c.word == "" {
			want = slices.Contains(emptyOnes(c.binary()), 0)
		}
		is, ok := impl.Accepts(c.binary(), wordOf(c.word))
		wantTold(t, c.text+" "+c.word, is, ok, want)
	}
}

func TestAcceptsTheEmptyWord(t *testing.T) {
	for text, want := range map[string]bool{
		"1 1": false, "1 1;S=": true, "1 1;S=a": false, "2 1;A=": false, "2 1;S=A;A=": true, "2 1;S=AA;A=": true, "2 1;S=aA;A=": false,
		"6 4;E=": false, "1 1;S=SS": false, "3 1;S=AB;A=;B=a": false, "3 1;S=AB;A=;B=AA": true, "2 2;S=AAAA;A=;A=b": true, "2 2;S=AAAb;A=": false,
	} {
		for _, w := range [][]int{nil, {}} {
			is, ok := impl.Accepts(wantedBinary(grammarOf(text)), w)
			wantTold(t, text, is, ok, want)
		}
	}
	is, ok := impl.Accepts(helpersBinary(), nil)
	wantTold(t, "not of the first one", is, ok, false)
	is, ok = impl.Accepts(impl.Binary{Nons: 40, Toks: 1, Pairs: lists{{0, 39, 39}}, Empty: []int{39}}, nil)
	wantTold(t, "by a helper", is, ok, true)
}

func TestJoinSteps(t *testing.T) {
	pairs := wantedBinary(grammarOf("1 2;S=aSb;S="))
	for n, want := range []int{0, 0, 2, 8, 20, 40, 70, 112, 168, 240, 330} {
		steps, ok := impl.JoinSteps(pairs, n)
		wantSize(t, "two Pairs, n of "+numberText(n), steps, ok, want)
		steps, ok = impl.JoinSteps(impl.Binary{Nons: 3, Toks: 2, Ones: lists{{0, 1}, {1, 2}}, Empty: []int{0, 1}}, n)
		wantSize(t, "no Pairs, n of "+numberText(n), steps, ok, 0)
		steps, ok = impl.JoinSteps(impl.Binary{Nons: 1, Toks: 1, Pairs: lists{{0, 0, 0}}}, n)
		wantSize(t, "a pair, n of "+numberText(n), steps, ok, want/2)
	}
	steps, ok := impl.JoinSteps(fullBinary(40, 4), 10)
	wantSize(t, "all there is", steps, ok, 40*44*44*165)
	for _, n := range append(oddInts(), -2, -1, 11, 12) {
		for _, b := range []impl.Binary{pairs, {Nons: 1, Toks: 1}, fullBinary(3, 2)} {
			steps, ok := impl.JoinSteps(b, n)
			wantNoNumber(t, "n of "+numberText(n), steps, ok)
		}
	}
}

func TestJoinStepsOneByOne(t *testing.T) {
	for name, b := range goodBinaries() {
		for n := range 11 {
			want := 0
			for from := range n + 1 {
				for between := range n + 1 {
					for to := range n + 1 {
						if from < between && between < to {
							want += len(b.Pairs)
						}
					}
				}
			}
			steps, ok := impl.JoinSteps(b, n)
			wantSize(t, name, steps, ok, want)
		}
	}
}
