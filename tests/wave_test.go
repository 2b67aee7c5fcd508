package tests

import (
	"slices"
	"testing"

	"loop.example/g00758/impl"
)

func TestPartOfAllHandsTogether(t *testing.T) {
	for n := range 11 {
		for hands := 1; hands <= 4; hands++ {
			for long := 1; long <= n; long++ {
				var all []int
				for hand := range hands {
					froms, ok := impl.PartOf(n, hands, hand, long)
					wantList(t, "part", froms, ok, fromsOf(n, hands, hand, long)...)
					all = append(all, froms...)
				}
				if !slices.Equal(sorted(all), upTo(n-long+1)) {
					t.Error(n, hands, long, all)
				}
			}
		}
	}
}

func TestPartOf(t *testing.T) {
	for _, c := range []struct {
		n, hands, hand, long int
		want                 []int
	}{
		{1, 1, 0, 1, []int{0}}, {1, 2, 0, 1, []int{0}}, {1, 2, 1, 1, nil}, {3, 2, 0, 1, []int{0, 2}}, {3, 2, 1, 1, []int{1}},
		{3, 2, 0, 2, []int{0}}, {3, 2, 1, 2, []int{1}}, {3, 2, 0, 3, []int{0}}, {3, 2, 1, 3, nil}, {2, 4, 2, 1, nil}, {3, 4, 3, 1, nil},
		{4, 4, 3, 1, []int{3}}, {10, 4, 3, 7, []int{3}}, {10, 4, 3, 8, nil}, {10, 3, 1, 1, []int{1, 4, 7}}, {10, 3, 0, 1, []int{0, 3, 6, 9}},
		{10, 4, 1, 2, []int{1, 5}}, {10, 1, 0, 1, upTo(10)}, {10, 1, 0, 10, []int{0}}, {10, 4, 3, 10, nil}, {10, 2, 1, 9, []int{1}},
	} {
		froms, ok := impl.PartOf(c.n, c.hands, c.hand, c.long)
		wantList(t, "by hand", froms, ok, c.want...)
	}
}

func TestPartOfNothing(t *testing.T) {
	numbers := append(oddInts(), upTo(13)...)
	numbers = append(numbers, -2, -1)
	seen := tally{}
	for _, n := range numbers {
		for _, hands := range numbers {
			for _, hand := range numbers {
				for _, long := range numbers {
					isSaid := 0 <= n && n <= 10 && 1 <= hands && hands <= 4 && 0 <= hand && hand < hands && 1 <= long && long <= n
					froms, ok := impl.PartOf(n, hands, hand, long)
					if ok != isSaid || !ok && len(froms) > 0 {
						t.Error(n, hands, hand, long, froms, ok)
					}
					seen[ok]++
				}
			}
		}
	}
	seen.wantBoth(t, 10*4)
	for _, c := range [][4]int{{3, 0, 0, 1}, {3, 5, 0, 1}, {3, 2, -1, 1}, {3, 2, 2, 1}, {3, 2, 0, 0}, {3, 2, 0, 4}, {11, 2, 0, 1}, {0, 1, 0, 1}, {0, 1, 0, 0}} {
		froms, ok := impl.PartOf(c[0], c[1], c[2], c[3])
		wantNoList(t, "by hand", froms, ok)
	}
}

func TestStepsIn(t *testing.T) {
	cells := []int{0, 1, 3, 6, 10, 15, 21, 28, 36, 45, 55}
	twice := wantedBinary(grammarOf("1 1;S=SS;S=a"))
	for n := range 11 {
		for hands := 1; hands <= 4; hands++ {
			steps, ok := impl.StepsIn(n, hands)
			wantSize(t, "steps", steps, ok, cells[n]+n*hands)
			_, log, runOk := impl.RunWave(twice, make([]int, n), hands, nil)
			if !runOk || len(log) != steps {
				t.Error(n, hands, log, steps)
			}
		}
	}
	for _, n := range append(noLengths(), 0, 1, 10) {
		for _, hands := range noHands() {
			steps, ok := impl.StepsIn(n, hands)
			wantNoNumber(t, "no hands", steps, ok)
		}
	}
	for _, n := range noLengths() {
		for hands := range 6 {
			steps, ok := impl.StepsIn(n, hands)
			wantNoNumber(t, "no word", steps, ok)
		}
	}
}

// runCase is how many tokens and hands there are, picks, and the steps written
// by hand.
type runCase struct {
	n, hands int
	picks    []int
	steps    string
}

func runCases() []runCase {
	return []runCase{
		{0, 1, nil, ""},
		{0, 4, []int{3, 999}, ""},
		{1, 1, nil, "001 0w1"},
		{1, 1, []int{999, 1, 5}, "001 0w1"},
		{1, 2, nil, "001 0w1 1w1"},
		{1, 2, []int{1}, "1w1 001 0w1"},
		{1, 2, []int{2}, "001 0w1 1w1"},
		{1, 2, []int{5, 7, 9}, "1w1 001 0w1"},
		{1, 2, []int{0, 1}, "001 1w1 0w1"},
		{1, 2, []int{0, 0, 1, 1, 1}, "001 0w1 1w1"},
		{1, 4, []int{2, 2, 1, 0}, "2w1 3w1 1w1 001 0w1"},
		{1, 4, []int{0, 0}, "001 0w1 1w1 2w1 3w1"},
		{1, 3, []int{998}, "2w1 001 0w1 1w1"},
		{2, 1, nil, "001 012 0w1 002 0w2"},
		{2, 2, nil, "001 0w1 112 1w1 002 0w2 1w2"},
		{2, 2, []int{1}, "112 001 0w1 1w1 002 0w2 1w2"},
		{2, 2, []int{1, 1, 1, 1, 1, 1}, "112 1w1 001 0w1 1w2 002 0w2"},
		{2, 2, []int{1, 1, 0, 0, 0, 1}, "112 1w1 001 0w1 002 1w2 0w2"},
		{2, 2, []int{999, 0, 1, 0, 2, 3}, "112 001 1w1 0w1 002 1w2 0w2"},
		{2, 4, nil, "001 0w1 112 1w1 2w1 3w1 002 0w2 1w2 2w2 3w2"},
		{2, 4, []int{3, 2, 1, 0}, "3w1 2w1 112 001 0w1 1w1 002 0w2 1w2 2w2 3w2"},
		{2, 3, []int{0, 1, 2, 0, 0, 3, 5, 1}, "001 112 2w1 0w1 1w1 002 2w2 1w2 0w2"},
		{3, 2, nil, "001 023 0w1 112 1w1 002 0w2 113 1w2 003 0w3 1w3"},
		{3, 2, []int{0, 1, 0, 1, 0, 1, 1, 0, 0, 1}, "001 112 023 1w1 0w1 113 1w2 002 0w2 1w3 003 0w3"},
		{3, 1, []int{1, 2, 3}, "001 012 023 0w1 002 013 0w2 003 0w3"},
		{3, 4, nil, "001 0w1 112 1w1 223 2w1 3w1 002 0w2 113 1w2 2w2 3w2 003 0w3 1w3 2w3 3w3"},
	}
}

func TestRunWave(t *testing.T) {
	twice := wantedBinary(grammarOf("1 1;S=SS;S=a"))
	for _, c := range runCases() {
		chart, log, ok := impl.RunWave(twice, make([]int, c.n), c.hands, c.picks)
		wantRun(t, c.steps, chart, log, ok, chartWith(c.n, 0), doneOf(c.steps))
	}
}

func TestRunWaveOfWrittenCharts(t *testing.T) {
	p := picker{3}
	for _, c := range chartCases() {
		for hands := 1; hands <= 4; hands++ {
			for _, picks := range [][]int{nil, {0, 1, 2, 3}, p.picks(20), p.picks(200)} {
				chart, log, ok := impl.RunWave(c.binary(), wordOf(c.word), hands, picks)
				wantRun(t, c.text+" "+c.word, chart, log, ok, c.chart(), playedRun(len(c.word), hands, picks))
			}
		}
	}
}

// All orders there are, each by its own picks, and by greater ones that come to
// the same places.
func TestRunWaveInEachOrder(t *testing.T) {
	pairs := wantedBinary(grammarOf("1 2;S=aSb;S="))
	counts := map[[2]int]int{}
	for n := range 4 {
		for hands := 1; hands <= 4; hands++ {
			if n*hands > 6 {
				continue
			}
			w := []int{0, 0, 1}[3-n:]
			want, _ := impl.FillChart(pairs, w)
			eachRun(n, hands, func(picks []int, steps []impl.Done) {
				counts[[2]int{n, hands}]++
				chart, log, ok := impl.RunWave(pairs, w, hands, picks)
				wantRun(t, "order", chart, log, ok, want, steps)
				for at := range picks {
					picks[at] += 12 * (at % 83)
				}
				chart, log, ok = impl.RunWave(pairs, w, hands, picks)
				wantRun(t, "greater picks", chart, log, ok, want, steps)
			})
		}
	}
	for place, want := range map[[2]int]int{{0, 4}: 1, {1, 1}: 1, {1, 2}: 3, {2, 2}: 18, {2, 3}: 360, {3, 1}: 1, {3, 2}: 180} {
		if counts[place] != want {
			t.Error(place, counts[place], want)
		}
	}
}

func TestRunWaveOfMaxWordTokens(t *testing.T) {
	twice := wantedBinary(grammarOf("1 1;S=SS;S=a"))
	p := picker{5}
	for hands := 1; hands <= 4; hands++ {
		for _, count := range []int{0, 1, 50, 94, 95, 96, 199, 200} {
			picks := p.picks(count)
			chart, log, ok := impl.RunWave(twice, make([]int, 10), hands, picks)
			wantRun(t, "ten tokens", chart, log, ok, chartWith(10, 0), playedRun(10, hands, picks))
		}
	}
	chart, log, ok := impl.RunWave(twice, make([]int, 10), 1, nil)
	var want []impl.Done
	for _, place := range cellPlaces(10) {
		want = append(want, cellStep(0, place[0], place[1]))
		if place[1] == 10 {
			want = append(want, waitStep(0, 10-place[0]))
		}
	}
	wantRun(t, "one hand", chart, log, ok, chartWith(10, 0), want)
	for _, long := range []int{11, 12, 5000} {
		chart, log, ok = impl.RunWave(twice, make([]int, long), 1, nil)
		wantNoRun(t, "too long", chart, log, ok)
	}
}

// What counts of a pick is the place that it comes to, and none that is behind
// the last step.
func TestRunWaveByPicks(t *testing.T) {
	b, w := fullBinary(3, 2), []int{0, 1, 1, 0, 1}
	want, _ := impl.FillChart(b, w)
	for hands := 1; hands <= 4; hands++ {
		for _, pick := range []int{0, 1, 2, 3, 4, 5, 11, 12, 998, 999} {
			for _, count := range []int{1, 2, 7, 20, 35, 200} {
				picks := slices.Repeat([]int{pick}, count)
				chart, log, ok := impl.RunWave(b, w, hands, picks)
				wantRun(t, "the same pick", chart, log, ok, want, playedRun(5, hands, picks))
			}
		}
		for at := range 40 {
			picks := make([]int, 40)
			picks[at] = 1
			chart, log, ok := impl.RunWave(b, w, hands, picks)
			wantRun(t, "one pick", chart, log, ok, want, playedRun(5, hands, picks))
		}
	}
}

func TestRunWaveOfPicksThatAreNone(t *testing.T) {
	b := wantedBinary(grammarOf("1 2;S=aSb;S="))
	for _, w := range [][]int{nil, {0}, {0, 1}, make([]int, 10)} {
		for _, pick := range append(oddInts(), -2, -1, 1000, 1001) {
			if pick == 17 {
				continue
			}
			for _, picks := range [][]int{{pick}, {0, pick}, {pick, 0}, append(make([]int, 199), pick), append(make([]int, 100), pick, 1)} {
				chart, log, ok := impl.RunWave(b, w, 2, picks)
				wantNoRun(t, "a pick of "+numberText(pick), chart, log, ok)
			}
		}
		for _, count := range []int{201, 202, 5000} {
			chart, log, ok := impl.RunWave(b, w, 2, make([]int, count))
			wantNoRun(t, "too many picks", chart, log, ok)
		}
		want, _ := impl.FillChart(b, w)
		for _, picks := range [][]int{{999}, {0}, {}, slices.Repeat([]int{999}, 200), append(make([]int, 199), 999)} {
			chart, log, ok := impl.RunWave(b, w, 2, picks)
			wantRun(t, "picks at the limits", chart, log, ok, want, playedRun(len(w), 2, picks))
		}
	}
}

func TestRunWaveWithoutHands(t *testing.T) {
	b := wantedBinary(grammarOf("1 2;S=aSb;S="))
	for _, hands := range noHands() {
		for _, w := range [][]int{nil, {0}, {0, 1}, make([]int, 10)} {
			chart, log, ok := impl.RunWave(b, w, hands, nil)
			wantNoRun(t, "hands of "+numberText(hands), chart, log, ok)
		}
	}
}

func TestRunWaveOfBinariesThatAreNotGood(t *testing.T) {
	for name, b := range badBinaries() {
		for _, w := range [][]int{nil, {0}, {0, 0}, {0, 1}} {
			chart, log, ok := impl.RunWave(b, w, 1+len(w), []int{1})
			wantNoRun(t, name, chart, log, ok)
		}
	}
}

func TestRunWaveOfListsThatAreNoWord(t *testing.T) {
	for _, b := range []impl.Binary{fullBinary(3, 2), wantedBinary(grammarOf("1 2;S=aSb;S=")), {Nons: 40, Toks: 2}} {
		for _, w := range badWords() {
			chart, log, ok := impl.RunWave(b, w, 3, nil)
			wantNoRun(t, "no word", chart, log, ok)
		}
	}
	for toks := 1; toks <= 4; toks++ {
		chart, log, ok := impl.RunWave(fullBinary(2, toks), []int{toks - 1}, 1, nil)
		wantRun(t, "the last token", chart, log, ok, chartWith(1, 0, 1), doneOf("001 0w1"))
		chart, log, ok = impl.RunWave(fullBinary(2, toks), []int{toks}, 1, nil)
		wantNoRun(t, "one behind", chart, log, ok)
	}
}

// The greatest binary grammar there is, and many nonterminals.
func TestRunWaveOfAllThereIs(t *testing.T) {
	w := []int{0, 1, 2, 3, 3, 2, 1, 0, 0, 3}
	chart, log, ok := impl.RunWave(fullBinary(40, 4), w, 4, []int{3, 1, 2})
	wantRun(t, "full", chart, log, ok, chartWith(10, upTo(40)...), playedRun(10, 4, []int{3, 1, 2}))
	chart, log, ok = impl.RunWave(helpersBinary(), []int{3, 0}, 3, []int{2})
	wantRun(t, "helpers", chart, log, ok, impl.Chart{N: 2, Cells: lists{{38}, {39}, {0, 36}}}, doneOf("2w1 001 0w1 112 1w1 002 0w2 1w2 2w2"))
}
