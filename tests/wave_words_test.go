package tests

import (
	"runtime"
	"slices"
	"sync"
	"testing"

	"loop.example/g00758/impl"
)

// wantWaves holds one binary grammar and word against promise 8, with each
// number of hands and lists of picks that are few and many.
func wantWaves(t *testing.T, p *picker, b impl.Binary, w []int) {
	t.Helper()
	want, ok := impl.FillChart(b, w)
	if !ok {
		t.Fatal("no chart", b, w)
	}
	for hands := 1; hands <= 4; hands++ {
		steps, _ := impl.StepsIn(len(w), hands)
		for _, count := range []int{0, 1 + p.pick(steps+1), 200} {
			picks := p.picks(count)
			c, log, ok := impl.RunWave(b, w, hands, picks)
			races, racesOk := impl.RacesIn(len(w), log, hands)
			is, isOk := impl.IsWave(len(w), hands, log)
			if !ok || !sameChart(c, want) || !racesOk || len(races) > 0 || !isOk || !is || len(log) != steps {
				t.Fatal(b, w, hands, picks, c, want, log, ok, races, racesOk, is, isOk, steps)
			}
			if !slices.Equal(log, playedRun(len(w), hands, picks)) {
				t.Fatal("steps in another order", w, hands, picks, log)
			}
		}
	}
}

// Promise 8.
func TestWavesFillTheChart(t *testing.T) {
	p := picker{59}
	for _, g := range normalGrammars() {
		b, _ := impl.BinaryOf(g)
		wantWaves(t, &p, b, p.word(g.Toks, p.pick(7)))
	}
}

// Promise 8, for what BinaryOf makes of no grammar.
func TestWavesFillTheChartOfAnyBinary(t *testing.T) {
	p := picker{61}
	for _, b := range pickedBinaries(300) {
		wantWaves(t, &p, b, p.word(b.Toks, p.pick(7)))
	}
}

// Promise 8, by words of up to MaxWord tokens, some of them of the language.
func TestWavesFillTheChartOfLongWords(t *testing.T) {
	p := picker{67}
	for _, g := range append(longGrammars(), wideGrammars()...) {
		b, _ := impl.BinaryOf(g)
		for long := range 11 {
			wantWaves(t, &p, b, p.word(g.Toks, long))
		}
	}
	for _, c := range deriveCases() {
		for i, w := range wordsOf(c.yes) {
			if i%5 == 2 {
				wantWaves(t, &p, wantedBinary(grammarOf(c.text)), w)
			}
		}
	}
}

// Promise 8: what comes ahead in a run is what stands at a lesser length, or is
// of the same hand.
func TestWavesComeAheadByLength(t *testing.T) {
	p := picker{71}
	for n := range 11 {
		for hands := 1; hands <= 4; hands++ {
			_, log, _ := impl.RunWave(fullBinary(2, 1), make([]int, n), hands, p.picks(100))
			for i, one := range log {
				for j, other := range log {
					want := i < j && one.Hand == other.Hand || one.To-one.From < other.To-other.From
					is, ok := impl.AheadOf(log, hands, i, j)
					wantTold(t, "of a run", is, ok, want)
				}
			}
		}
	}
}

// Each cell is made of cells that are ahead of it, as CellFor tells from what
// was made by then.
func TestWavesMakeEachCellOfThoseAhead(t *testing.T) {
	p := picker{73}
	for _, b := range pickedBinaries(120) {
		w, hands := p.word(b.Toks, p.pick(8)), 1+p.pick(4)
		c, log, _ := impl.RunWave(b, w, hands, p.picks(60))
		soFar := chartWith(len(w))
		for _, step := range log {
			if step.Kind == 1 {
				cell, ok := impl.CellFor(b, soFar, w, step.From, step.To)
				wantList(t, "made", cell, ok, cellIn(c, step.From, step.To)...)
				soFar.Cells[placeOf(len(w), step.From, step.To)] = cell
			}
		}
		wantChart(t, "all made", soFar, true, c)
	}
}

// Promise 8: an order that no picks bring about has a race, or cells that are
// not as many as they are.
func TestRacesShowWhereAHandDoesNotWait(t *testing.T) {
	for n := 2; n <= 10; n++ {
		for hands := 2; hands <= 4; hands++ {
			log := playedRun(n, hands, nil)
			early := slices.Index(log, cellStep(0, 0, 2))
			late := slices.Index(log, cellStep(1, 1, 2))
			moved := slices.Insert(slices.Delete(slices.Clone(log), early, early+1), late, log[early])
			is, ok := impl.IsWave(n, hands, moved)
			wantTold(t, "moved ahead", is, ok, false)
			races, ok := impl.RacesIn(n, moved, hands)
			if !ok || !has(races, late, late+1) {
				t.Error(n, hands, moved, races, ok)
			}
		}
	}
}

// The same at every call, however many of them there are at a time and whatever
// runs beside them.
func TestWavesAtTheSameTime(t *testing.T) {
	b, w := wantedBinary(grammarOf("3 2;S=AB;S=SS;A=aSb;A=;B=b;B=aA")), []int{0, 1, 1, 0, 1, 0, 0, 1}
	p := picker{79}
	picks := p.picks(60)
	before := runtime.GOMAXPROCS(0)
	defer runtime.GOMAXPROCS(before)
	for _, most := range []int{1, 2, before, 16} {
		runtime.GOMAXPROCS(most)
		for hands := 1; hands <= 4; hands++ {
			want, wantLog, _ := impl.RunWave(b, w, hands, picks)
			var running sync.WaitGroup
			for range 8 {
				running.Add(1)
				go func() {
					defer running.Done()
					for range 10 {
						c, log, ok := impl.RunWave(b, w, hands, picks)
						if !ok || !sameChart(c, want) || !slices.Equal(log, wantLog) {
							t.Error("another answer", most, hands, c, log)
						}
					}
				}()
			}
			running.Wait()
		}
	}
}

// leftBehind waits for those that are about to end, but not for ever.
func leftBehind(before int) int {
	for range 1000000 {
		if runtime.NumGoroutine() <= before {
			return 0
		}
		runtime.Gosched()
	}
	return runtime.NumGoroutine() - before
}

func TestWavesLeaveNoGoroutineBehind(t *testing.T) {
	before := runtime.NumGoroutine()
	p := picker{83}
	b := fullBinary(3, 2)
	for n := range 12 {
		for hands := range 6 {
			for _, picks := range [][]int{nil, p.picks(30), p.picks(200), p.picks(201), {-1}, {0, 1000}} {
				impl.RunWave(b, p.word(2, n), hands, picks)
				impl.RunWave(impl.Binary{}, p.word(2, n), hands, picks)
				impl.RunWave(b, append(p.word(2, n), 2), hands, picks)
			}
			impl.StepsIn(n, hands)
			log := playedRun(min(n, 10), max(hands, 1), nil)
			impl.IsWave(n, hands, log)
			impl.RacesIn(n, log, hands)
			impl.AheadOf(log, hands, 0, 1)
			impl.PartOf(n, hands, 0, 1)
		}
	}
	if count := leftBehind(before); count > 0 {
		t.Error("left behind:", count)
	}
}
