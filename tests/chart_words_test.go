package tests

import (
	"slices"
	"testing"

	"loop.example/g00758/impl"
)

// derivers are the nonterminals of the grammar that derive the part, and the
// helpers for which what they say does.
func derivers(t *testing.T, g impl.Grammar, b impl.Binary, part []int) []int {
	t.Helper()
	var out []int
	for non := range b.Nons {
		says, saysOk := impl.HelperSays(g, non)
		is, ok := impl.SequenceDerives(g, says, part)
		if non < g.Nons {
			is, ok = impl.Derives(g, non, part)
		}
		if !saysOk || !ok {
			t.Fatal(g, non, part)
		}
		if is {
			out = append(out, non)
		}
	}
	return out
}

// wantDerivers holds each cell of one chart against promise 7.
func wantDerivers(t *testing.T, g impl.Grammar, w []int, seen tally) {
	t.Helper()
	b, ok := impl.BinaryOf(g)
	if !ok {
		t.Fatal("no binary grammar of", g)
	}
	c, ok := impl.FillChart(b, w)
	if !ok || c.N != len(w) || len(c.Cells) != len(cellPlaces(len(w))) {
		t.Fatal(g, w, c, ok)
	}
	for no, place := range cellPlaces(len(w)) {
		want := derivers(t, g, b, w[place[0]:place[1]])
		if !slices.Equal(c.Cells[no], want) {
			t.Fatal(g, w, place, c.Cells[no], want)
		}
		for non := range b.Nons {
			if place[1]-place[0] > 1 {
				seen[slices.Contains(want, non)]++
			}
		}
	}
}

// Promise 7.
func TestCellsHaveWhatDerivesTheirPart(t *testing.T) {
	p, seen := picker{17}, tally{}
	for _, g := range normalGrammars() {
		for range 2 {
			wantDerivers(t, g, p.word(g.Toks, p.pick(6)), seen)
		}
	}
	seen.wantBoth(t, 10000)
}

// Promise 7, by words of up to MaxWord tokens, some of them of the language.
func TestCellsOfLongWordsHaveWhatDerivesTheirPart(t *testing.T) {
	p, seen := picker{19}, tally{}
	for _, g := range append(longGrammars(), wideGrammars()...) {
		for long := range 11 {
			wantDerivers(t, g, p.word(g.Toks, long), seen)
		}
	}
	for _, c := range deriveCases() {
		for i, w := range wordsOf(c.yes) {
			if i%3 == 2 {
				wantDerivers(t, grammarOf(c.text), w, seen)
			}
		}
	}
	seen.wantBoth(t, 1000)
}

// Promise 7, for what BinaryOf makes of no grammar: all words are enumerated.
func TestCellsHaveTheWordsThatAreEnumerated(t *testing.T) {
	p, seen := picker{23}, tally{}
	for _, b := range append(pickedBinaries(600), smallBinaries()...) {
		if len(b.Pairs) == 0 && p.pick(8) > 0 {
			continue
		}
		const most = 5
		found := enumerated(plainRules(b), most)
		w := p.word(b.Toks, most)
		text := wordLetters(w)
		c, ok := impl.FillChart(b, w)
		if !ok {
			t.Fatal("no chart", b, w)
		}
		for no, place := range cellPlaces(most) {
			var want []int
			for non, words := range found {
				is := words.has(text[place[0]:place[1]])
				if is {
					want = append(want, non)
				}
				seen[is]++
			}
			if !slices.Equal(c.Cells[no], want) {
				t.Fatal(b, w, place, c.Cells[no], want)
			}
		}
	}
	seen.wantBoth(t, 10000)
}

func wantAccepted(t *testing.T, g impl.Grammar, w []int, seen tally) {
	t.Helper()
	b, _ := impl.BinaryOf(g)
	want, ok := impl.InLanguage(g, w)
	if !ok {
		t.Fatal(g, w)
	}
	if is, ok := impl.Accepts(b, w); !ok || is != want {
		t.Fatal(g, w, is, ok, want)
	}
	seen[want]++
}

// Promise 7: what is accepted is the language.
func TestAcceptsWhatIsInTheLanguage(t *testing.T) {
	seen, none := tally{}, tally{}
	for _, g := range normalGrammars() {
		wantAccepted(t, g, nil, none)
		for _, w := range wordsUpTo(g.Toks, 4) {
			wantAccepted(t, g, w, seen)
		}
	}
	seen.wantBoth(t, 4000)
	none.wantBoth(t, 300)
}

func TestAcceptsLongWordsOfTheLanguage(t *testing.T) {
	seen := tally{}
	for _, g := range longGrammars() {
		for i, w := range wordsUpTo(2, 10) {
			if i%3 == 0 {
				wantAccepted(t, g, w, seen)
			}
		}
	}
	seen.wantBoth(t, 1000)
}

// The last cell tells, and nothing else, where there is one.
func TestAcceptsWhatTheLastCellTells(t *testing.T) {
	p, seen := picker{29}, tally{}
	for _, b := range pickedBinaries(800) {
		w := p.word(b.Toks, p.pick(8))
		null, _ := impl.BinaryNull(b)
		last := null
		if c, ok := impl.FillChart(b, w); ok && len(w) > 0 {
			last, _ = impl.CellAt(c, 0, len(w))
		}
		want := slices.Contains(last, 0)
		is, ok := impl.Accepts(b, w)
		wantTold(t, "last cell", is, ok, want)
		seen[want]++
	}
	seen.wantBoth(t, 100)
}

// Any chart, with numbers that are no nonterminals too.
func TestCellForByEachPair(t *testing.T) {
	p, seen := picker{31}, tally{}
	for i, b := range append(pickedBinaries(500), smallBinaries()...) {
		if i >= 500 && i%40 != 0 {
			continue
		}
		n := 1 + p.pick(6)
		c, w := p.chart(n), p.word(b.Toks, n)
		for _, place := range cellPlaces(n) {
			want := wantedCell(b, c, w, place[0], place[1])
			cell, ok := impl.CellFor(b, c, w, place[0], place[1])
			if !ok || !slices.Equal(cell, want) {
				t.Fatal(b, c, w, place, cell, ok, want)
			}
			if place[1]-place[0] > 1 {
				seen[len(want) > 0]++
			}
		}
	}
	seen.wantBoth(t, 1000)
}

// othersChanged has other numbers in all cells but the shorter ones of a part.
func othersChanged(p *picker, c impl.Chart, from, to int) impl.Chart {
	out := copyOfChart(c)
	for no, place := range cellPlaces(c.N) {
		isWithin := from <= place[0] && place[1] <= to && place[1]-place[0] < to-from
		if !isWithin {
			out.Cells[no] = p.rising(40, 1+p.pick(3))
		}
	}
	return out
}

// without has only the numbers less than count.
func without(c impl.Chart, count int) impl.Chart {
	out := copyOfChart(c)
	for no, cell := range out.Cells {
		out.Cells[no] = slices.DeleteFunc(cell, func(x int) bool { return x >= count })
	}
	return out
}

// Longer cells, cells beside and the cell itself count for nothing, nor do
// numbers that are no nonterminals.
func TestCellForTakesNothingElse(t *testing.T) {
	p, full := picker{37}, 0
	for _, b := range pickedBinaries(300) {
		n := 1 + p.pick(10)
		c, w := p.chart(n), p.word(b.Toks, n)
		for _, place := range cellPlaces(n) {
			want, wantOk := impl.CellFor(b, c, w, place[0], place[1])
			for name, other := range map[string]impl.Chart{
				"changed": othersChanged(&p, c, place[0], place[1]), "without": without(c, b.Nons),
			} {
				cell, ok := impl.CellFor(b, other, w, place[0], place[1])
				if !ok || !wantOk || !slices.Equal(cell, want) {
					t.Fatal(name, b, c, other, w, place, cell, ok, want, wantOk)
				}
			}
			if len(want) > 0 && place[1]-place[0] > 1 {
				full++
			}
		}
	}
	if full < 1000 {
		t.Error("too few cells to tell:", full)
	}
}

// Tokens outside of the part count for nothing.
func TestCellForTakesNoOtherTokens(t *testing.T) {
	p := picker{41}
	for _, b := range pickedBinaries(300) {
		n := 2 + p.pick(6)
		c, w := p.chart(n), p.word(b.Toks, n)
		for _, place := range cellPlaces(n) {
			other := p.word(b.Toks, n)
			copy(other[place[0]:place[1]], w[place[0]:place[1]])
			want, _ := impl.CellFor(b, c, w, place[0], place[1])
			cell, ok := impl.CellFor(b, c, other, place[0], place[1])
			wantList(t, "other tokens", cell, ok, want...)
		}
	}
}

// Each cell is CellFor of the chart filled up to it, by the tests' own reading.
func TestFillChartIsCellForInOrder(t *testing.T) {
	p := picker{43}
	binaries := pickedBinaries(300)
	for _, g := range append(longGrammars(), wideGrammars()...) {
		binaries = append(binaries, wantedBinary(g))
	}
	for _, b := range binaries {
		w := p.word(b.Toks, p.pick(9))
		soFar := chartWith(len(w))
		for no, place := range cellPlaces(len(w)) {
			cell, ok := impl.CellFor(b, soFar, w, place[0], place[1])
			wantList(t, "cell", cell, ok, wantedCell(b, soFar, w, place[0], place[1])...)
			soFar.Cells[no] = cell
		}
		c, ok := impl.FillChart(b, w)
		wantChart(t, "filled", c, ok, soFar)
	}
}

// A part's cell is the last one of the chart for the part alone.
func TestCellsOfAPartAreThoseOfTheWord(t *testing.T) {
	p := picker{47}
	for _, b := range pickedBinaries(200) {
		w := p.word(b.Toks, 1+p.pick(10))
		c, _ := impl.FillChart(b, w)
		for _, place := range cellPlaces(len(w)) {
			cell, ok := impl.CellAt(c, place[0], place[1])
			part, partOk := impl.FillChart(b, w[place[0]:place[1]])
			if !ok || !partOk || !slices.Equal(cell, part.Cells[len(part.Cells)-1]) {
				t.Fatal(b, w, place, cell, part)
			}
		}
	}
}
