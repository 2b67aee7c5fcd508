package tests

import (
	"math"
	"reflect"
	"slices"
	"testing"

	"loop.example/g00758/impl"
)

// waveArguments are what the functions of chapter 8 are asked.
type waveArguments struct {
	b                          impl.Binary
	w, picks                   []int
	log                        []impl.Done
	n, hands, hand, long, i, j int
}

var spareStep = impl.Done{Hand: spare, Kind: spare, From: spare, To: spare}

// roomy gives the same arguments with more behind the lengths of all lists.
func (a waveArguments) roomy() waveArguments {
	a.b, a.w, a.picks = roomyBinary(a.b), roomy(a.w), roomy(a.picks)
	a.log = append(slices.Clone(a.log), spareStep, spareStep, spareStep)[:len(a.log)]
	return a
}

// picture copies the lists, also what is behind their lengths.
func (a waveArguments) picture() (lists, []impl.Done) {
	numbers := []int{len(a.w), len(a.picks), len(a.log)}
	return append(pictureOfBinary(a.b), numbers, slices.Clone(whole(a.w)), slices.Clone(whole(a.picks))), slices.Clone(whole(a.log))
}

type waveAnswers struct {
	told  []bool
	steps int
	froms []int
	chart impl.Chart
	log   []impl.Done
	races lists
}

func askWaves(a waveArguments) waveAnswers {
	var out waveAnswers
	var fromsOk, stepsOk, runOk, racesOk bool
	out.froms, fromsOk = impl.PartOf(a.n, a.hands, a.hand, a.long)
	out.steps, stepsOk = impl.StepsIn(a.n, a.hands)
	out.chart, out.log, runOk = impl.RunWave(a.b, a.w, a.hands, a.picks)
	ahead, aheadOk := impl.AheadOf(a.log, a.hands, a.i, a.j)
	out.races, racesOk = impl.RacesIn(a.n, a.log, a.hands)
	is, isOk := impl.IsWave(a.n, a.hands, a.log)
	out.told = []bool{fromsOk, stepsOk, runOk, ahead, aheadOk, racesOk, is, isOk}
	return out
}

func sameWaves(a, b waveAnswers) bool {
	return slices.Equal(a.told, b.told) && a.steps == b.steps && slices.Equal(a.froms, b.froms) && sameChart(a.chart, b.chart) &&
		slices.Equal(a.log, b.log) && sameLists(a.races, b.races)
}

// spoilWaves writes into all lists, and then into the lists of these.
func spoilWaves(t *testing.T, name string, a waveAnswers) {
	t.Helper()
	checkApart(t, name, slices.Concat(a.chart.Cells, a.races, lists{a.froms}))
	if slices.Contains(whole(a.log), spareStep) {
		t.Error(name, "hands out steps behind a length")
	}
	for at := range whole(a.log) {
		whole(a.log)[at] = impl.Done{Hand: -5}
	}
	for _, table := range []lists{a.chart.Cells, a.races} {
		for k, list := range whole(table) {
			if k >= len(table) && list != nil {
				t.Error(name, "hands out a list behind a length")
			}
			whole(table)[k] = []int{-77}
		}
	}
}

// eachWaveArgument has arguments that fit each other, and those that do not.
func eachWaveArgument(ask func(name string, a waveArguments)) {
	words := lists{nil, {0}, {0, 0, 0}, {1, 0, 1, 0}, {0, 4, 0}, make([]int, 10), make([]int, 11)}
	p := picker{89}
	for name, b := range everyBinary() {
		for n, w := range words {
			hands := 1 + n%4
			ask(name, waveArguments{b: b, w: w, picks: p.picks(5 * n), log: doneOf("001 0w1"), n: n, hands: hands, long: 1, j: 1})
		}
	}
	b, w := wantedBinary(grammarOf("2 2;S=aSA;S=SS;A=Ab;A=;S=b")), []int{0, 1, 1, 0}
	logs := map[string][]impl.Done{"none": nil, "races": doneOf("001 101 001 112 002"), "many": p.log(4, 200), "too many": p.log(4, 201), "huge": p.log(4, 5000)}
	for hands := 1; hands <= 4; hands++ {
		logs["run of "+numberText(hands)] = playedRun(4, hands, p.picks(30))
		for name, bad := range badSteps(hands) {
			logs["bad "+name] = []impl.Done{cellStep(0, 0, 1), bad}
		}
	}
	pickLists := lists{nil, {}, {0}, {999, 3}, {-1}, {1000}, make([]int, 200), make([]int, 201), p.picks(40)}
	for name, log := range logs {
		for at, picks := range pickLists {
			for hands := range 6 {
				ask(name, waveArguments{b, w, picks, log, 4, hands, at % 3, 1 + at%4, at - 1, 2 * at})
			}
		}
	}
}

// Promise 21.
func TestWavesNeitherChangeNorShareArguments(t *testing.T) {
	eachWaveArgument(func(name string, plain waveArguments) {
		a := plain.roomy()
		before, steps := a.picture()
		answers := askWaves(a)
		wantAsBefore := func(when string) {
			if after, stepsAfter := a.picture(); !reflect.DeepEqual(before, after) || !slices.Equal(steps, stepsAfter) {
				t.Fatal(when, name, plain)
			}
		}
		wantAsBefore("an argument was changed:")
		spoilWaves(t, name, answers)
		wantAsBefore("an answer shares memory with an argument:")
	})
}

func TestWavesDoNotReadBehindALength(t *testing.T) {
	eachWaveArgument(func(name string, a waveArguments) {
		if tight, loose := askWaves(a), askWaves(a.roomy()); !sameWaves(tight, loose) {
			t.Fatal(name, a, tight, loose)
		}
	})
}

// What is behind a length must not show, though it would fit.
func TestWavesDoNotReadWhatFitsBehindALength(t *testing.T) {
	b, word := fullBinary(2, 2), wordOf("abab")
	p := picker{97}
	picks := p.picks(60)
	log := playedRun(4, 2, picks)
	for n := range 5 {
		for cut := range len(log) + 1 {
			got := askWaves(waveArguments{b, word[:n], picks[:cut], log[:cut], n, 2, 0, 1, 0, cut - 1})
			want := askWaves(waveArguments{b, slices.Clip(slices.Clone(word[:n])), slices.Clip(slices.Clone(picks[:cut])),
				slices.Clip(slices.Clone(log[:cut])), n, 2, 0, 1, 0, cut - 1})
			if !sameWaves(got, want) || !got.told[2] || got.told[6] != (n == 4 && cut == len(log) || n == 0 && cut == 0) {
				t.Error(n, cut, got, want)
			}
			is, ok := impl.AheadOf(log[:cut], 2, 0, cut)
			wantNotTold(t, "behind the length", is, ok)
		}
	}
}

// Many calls, because what comes of the order in which goroutines run shows at
// some of them only.
func TestWavesKeepNothingFromCallToCall(t *testing.T) {
	eachWaveArgument(func(name string, a waveArguments) {
		want := askWaves(a)
		spoilWaves(t, name, askWaves(a))
		if !sameWaves(want, askWaves(a)) {
			t.Fatal("another answer at a later call:", name, a)
		}
	})
	p := picker{101}
	for _, b := range pickedBinaries(30) {
		a := waveArguments{b: b, w: p.word(b.Toks, 6), picks: p.picks(30), log: p.log(3, 20), n: 6, hands: 1 + p.pick(4), long: 1, j: 3}
		want := askWaves(a)
		for range 40 {
			if !sameWaves(want, askWaves(a)) {
				t.Fatal("another answer at a later call:", a)
			}
		}
	}
}

// Lists of an argument may share memory; those of an answer may not.
func TestWavesOfListsThatShareMemory(t *testing.T) {
	numbers := []int{0, 0, 0, 1, 1, 2}
	b := impl.Binary{Nons: 3, Toks: 1, Pairs: lists{numbers[2:5]}, Ones: lists{{1, -1}}, Empty: numbers[5:], From: lists{numbers[:2], numbers[:2]}}
	got := askWaves(waveArguments{b: b, w: numbers[:2], picks: numbers[1:5], log: doneOf("001 101"), n: 2, hands: 2, long: 1, j: 1})
	want := waveAnswers{
		told: []bool{true, true, true, false, true, true, false, true}, steps: 7, froms: []int{0},
		chart: impl.Chart{N: 2, Cells: lists{{1}, {1}, {0}}}, log: doneOf("001 0w1 112 1w1 002 0w2 1w2"), races: lists{{0, 1}},
	}
	if !sameWaves(got, want) {
		t.Error(got, want)
	}
	spoilWaves(t, "shared", got)
	if !slices.Equal(numbers, []int{0, 0, 0, 1, 1, 2}) {
		t.Error("an argument was changed:", numbers)
	}
}

func TestNoWavePanics(t *testing.T) {
	defer func() {
		if p := recover(); p != nil {
			t.Error("panic:", p)
		}
	}()
	numbers := append(oddInts(), -2, -1, 0, 1, 2, 4, 5, 10, 11, 999, 1000)
	small := fullBinary(2, 2)
	for _, x := range numbers {
		for _, y := range numbers {
			for _, z := range numbers {
				list, log := []int{x, y, z}, []impl.Done{{Hand: x, Kind: y, From: z, To: x}, {Hand: y, Kind: 1, From: x, To: z}, {Kind: 2, To: y}}
				askWaves(waveArguments{small, list, list, log, x, y, z, x, y, z})
				askWaves(waveArguments{small, list[:1], list[1:], log[2:], z, x, y, z, x, y})
				askWaves(waveArguments{small, []int{1, 0}, list, log[1:2], 2, 1 + (x&3+y&3)&3, x, y, z, x})
				askWaves(waveArguments{impl.Binary{Nons: x, Toks: y, Pairs: lists{list}}, list, nil, log, 10, 4, x, y, y, z})
			}
		}
	}
	huge := slices.Repeat([]int{math.MaxInt}, 100000)
	many := slices.Repeat([]impl.Done{{Hand: math.MinInt, Kind: math.MaxInt, From: math.MaxInt, To: math.MinInt}}, 100000)
	askWaves(waveArguments{small, huge, huge, many, math.MaxInt, math.MinInt, math.MaxInt, math.MinInt, math.MaxInt, math.MinInt})
	askWaves(waveArguments{small, make([]int, 10), huge[:200], many[:200], 10, 4, math.MinInt, math.MaxInt, math.MinInt, math.MaxInt})
	askWaves(waveArguments{small, make([]int, 10), make([]int, 200), many[:1], 10, 4, 3, 1, 0, 0})
}
