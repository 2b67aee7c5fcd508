package tests

import (
	"slices"
	"testing"

	"loop.example/g00758/impl"
)

func wantWave(t *testing.T, name string, n, hands int, log []impl.Done, want bool) {
	t.Helper()
	is, ok := impl.IsWave(n, hands, log)
	if !ok || is != want {
		t.Errorf("%s: n %d, %d hands, %v: got %v, %v; want %v, true", name, n, hands, log, is, ok, want)
	}
}

func TestIsWave(t *testing.T) {
	for _, c := range runCases() {
		for n := range 5 {
			for hands := 1; hands <= 4; hands++ {
				isSame := n == c.n && (n == 0 || hands == c.hands)
				wantWave(t, c.steps, n, hands, doneOf(c.steps), isSame)
			}
		}
	}
	for text, want := range map[string]bool{
		"": false, "001": false, "0w1": false, "1w1": false, "001 0w1": false, "0w1 001 1w1": false, "001 0w1 1w1": true, "001 1w1 0w1": true,
		"1w1 001 0w1": true, "1w1 0w1 001": false, "101 0w1 1w1": false, "001 0w1 0w1": false, "001 0w1 1w1 1w1": false, "001 001 0w1 1w1": false,
		"001 0w1 1w1 0w2 1w2": false, "001 0w1 1w1 012": false, "012 0w1 1w1": false, "002 0w1 1w1": false, "001 0w1 2w1": false, "001 0w2 1w1": false,
	} {
		wantWave(t, text, 1, 2, doneOf(text), want)
	}
	for text, want := range map[string]bool{
		"001 0w1 112 1w1 002 0w2 1w2": true, "001 0w1 002 112 1w1 0w2 1w2": false, "001 0w1 112 1w1 1w2 002 0w2": true,
		"001 0w1 112 002 1w1 0w2 1w2": false, "001 0w1 112 1w1 0w2 002 1w2": false, "112 1w1 1w2 001 0w1 002 0w2": false,
		"001 0w1 112 1w1 102 0w2 1w2": false, "001 0w1 112 1w1 002 1w2 0w2": true, "012 0w1 101 1w1 002 0w2 1w2": false,
		"001 112 0w1 1w1 0w2 1w2": false, "002 0w2 1w2 001 0w1 112 1w1": false, "001 0w1 112 1w1 002 0w2": false,
	} {
		wantWave(t, text, 2, 2, doneOf(text), want)
	}
}

func TestIsWaveOfNoSteps(t *testing.T) {
	for n := range 11 {
		for hands := 1; hands <= 4; hands++ {
			wantWave(t, "nil", n, hands, nil, n == 0)
			wantWave(t, "none", n, hands, []impl.Done{}, n == 0)
		}
	}
}

// permuted has the log in all orders.
func permuted(log []impl.Done, ahead int, ask func(log []impl.Done)) {
	if ahead == len(log) {
		ask(log)
	}
	for at := ahead; at < len(log); at++ {
		log[ahead], log[at] = log[at], log[ahead]
		permuted(log, ahead+1, ask)
		log[ahead], log[at] = log[at], log[ahead]
	}
}

// Of all orders of the steps just those are a wave that some picks bring about.
func TestIsWaveInEachOrder(t *testing.T) {
	for _, c := range []struct{ n, hands, orders int }{{1, 1, 1}, {1, 2, 3}, {1, 3, 12}, {1, 4, 60}, {2, 1, 1}, {2, 2, 18}, {3, 1, 1}} {
		found := map[[9]impl.Done]bool{}
		keyOf := func(log []impl.Done) (key [9]impl.Done) {
			copy(key[:], log)
			return key
		}
		eachRun(c.n, c.hands, func(_ []int, log []impl.Done) { found[keyOf(log)] = true })
		if len(found) != c.orders {
			t.Error(c, len(found))
		}
		permuted(playedRun(c.n, c.hands, nil), 0, func(log []impl.Done) {
			is, ok := impl.IsWave(c.n, c.hands, log)
			if !ok || is != found[keyOf(log)] {
				t.Fatal(c, log, is, ok)
			}
		})
	}
}

// eachChange has a log with one step left out, one said twice, two steps
// changed in their order, and a field changed.
func eachChange(log []impl.Done, ask func(name string, changed []impl.Done)) {
	for i, step := range log {
		ask("left out", slices.Delete(slices.Clone(log), i, i+1))
		for _, j := range []int{i, i + 1, 0, len(log)} {
			ask("twice", slices.Insert(slices.Clone(log), j, step))
		}
		for j := i + 1; j < len(log); j++ {
			if j > i+6 && j%7 != 0 {
				continue
			}
			swapped := slices.Clone(log)
			swapped[i], swapped[j] = log[j], log[i]
			ask("in another order", swapped)
		}
		for _, other := range changedSteps(step) {
			changed := slices.Clone(log)
			changed[i] = other
			ask("changed", changed)
		}
		ask("cut", log[:i])
		ask("cut ahead", log[i+1:])
	}
}

func TestIsWaveOfChangedSteps(t *testing.T) {
	p, seen := picker{7}, tally{}
	for _, n := range []int{1, 2, 3, 4, 6, 10} {
		for hands := 1; hands <= 4; hands++ {
			for _, count := range []int{0, 200} {
				log := playedRun(n, hands, p.picks(count))
				wantWave(t, "as it is", n, hands, log, true)
				eachChange(log, func(name string, changed []impl.Done) {
					want := isPlayed(n, hands, changed)
					if want && name != "in another order" {
						t.Error(name, changed)
					}
					wantWave(t, name, n, hands, changed, want)
					seen[want]++
				})
			}
		}
	}
	seen.wantBoth(t, 500)
}

func TestIsWaveOfOtherNumbers(t *testing.T) {
	p := picker{11}
	for n := range 11 {
		for hands := 1; hands <= 4; hands++ {
			log := playedRun(n, hands, p.picks(n*8))
			for other := range 11 {
				for others := 1; others <= 4; others++ {
					wantWave(t, "other numbers", other, others, log, other == n && (others == hands || n == 0))
				}
			}
		}
	}
}

// Steps may have any hands, kinds and numbers: they are then of no run.
func TestIsWaveOfStepsThatAreNone(t *testing.T) {
	for hands := 1; hands <= 4; hands++ {
		for name, bad := range badSteps(hands) {
			for n := range 4 {
				log := playedRun(n, hands, nil)
				wantWave(t, name, n, hands, []impl.Done{bad}, false)
				for at := range len(log) + 1 {
					wantWave(t, name+" put in", n, hands, slices.Insert(slices.Clone(log), at, bad), false)
					if at < len(log) {
						wantWave(t, name+" instead", n, hands, slices.Replace(slices.Clone(log), at, at+1, bad), false)
					}
				}
			}
		}
	}
}

func TestIsWaveOfManySteps(t *testing.T) {
	long := playedRun(10, 4, nil)
	for _, count := range []int{96, 199, 200} {
		for _, log := range [][]impl.Done{make([]impl.Done, count), slices.Repeat(long, 3)[:count], slices.Repeat(doneOf("001 0w1"), 100)[:count]} {
			for n := range 11 {
				wantWave(t, "many", n, 4, log, false)
				wantWave(t, "many of one hand", n, 1, log, false)
			}
		}
	}
	for _, count := range []int{201, 202, 5000} {
		for n := range 11 {
			is, ok := impl.IsWave(n, 1, make([]impl.Done, count))
			wantNotTold(t, "too many", is, ok)
		}
	}
}

func TestIsWaveOfNoWordAndNoHands(t *testing.T) {
	for _, log := range [][]impl.Done{nil, doneOf("001 0w1"), doneOf("001 0w1 1w1"), playedRun(10, 4, nil), make([]impl.Done, 200)} {
		for _, n := range noLengths() {
			for hands := range 6 {
				is, ok := impl.IsWave(n, hands, log)
				wantNotTold(t, "n of "+numberText(n), is, ok)
			}
		}
		for _, hands := range noHands() {
			for n := range 11 {
				is, ok := impl.IsWave(n, hands, log)
				wantNotTold(t, "hands of "+numberText(hands), is, ok)
			}
		}
	}
}

// A row of the answers has one for each j, by hand: x where i comes ahead.
func TestAheadOf(t *testing.T) {
	for text, want := range map[string][]string{
		"001":                         {"."},
		"001 0w1":                     {".x", ".."},
		"0w1 001":                     {".x", ".."},
		"001 112":                     {"..", ".."},
		"0w1 112":                     {"..", ".."},
		"0w1 112 1w1 0w2":             {"...x", "..xx", "...x", "...."},
		"001 0w1 112 1w1 002 0w2 1w2": {".x..xxx", "....xxx", "...xxxx", "....xxx", ".....x.", ".......", "......."},
		"001 0w1 0w2 0w3 112":         {".xxx.", "..xx.", "...x.", ".....", "....."},
		"112 001 0w1 0w2 003":         {"...xx", "..xxx", "...xx", "....x", "....."},
		"0w1 1w1 001 112 0w2 1w2 003": {"..xxxxx", "..xxxxx", "....x.x", ".....xx", "......x", "......x", "......."},
		"1w1 1w1 112 001":             {".xx.", "..x.", "....", "...."},
	} {
		log := doneOf(text)
		for i, row := range want {
			for j := range log {
				is, ok := impl.AheadOf(log, 2, i, j)
				wantTold(t, text+" "+numberText(i)+" "+numberText(j), is, ok, row[j] == 'x')
			}
		}
	}
}

func TestAheadOfAnySteps(t *testing.T) {
	p, seen := picker{13}, tally{}
	for range 300 {
		hands := 1 + p.pick(4)
		log := p.log(hands, p.pick(16))
		for i := -2; i < len(log)+2; i++ {
			for j := -2; j < len(log)+2; j++ {
				is, ok := impl.AheadOf(log, hands, i, j)
				if min(i, j) < 0 || max(i, j) >= len(log) {
					wantNotTold(t, "no places", is, ok)
					continue
				}
				want := wantedAhead(log, i, j)
				wantTold(t, "any steps", is, ok, want)
				if i < j && log[i].Hand != log[j].Hand {
					seen[want]++
				}
			}
		}
	}
	seen.wantBoth(t, 500)
}

func TestAheadOfManySteps(t *testing.T) {
	p := picker{17}
	for _, count := range []int{199, 200} {
		log := p.log(4, count)
		for i := range log {
			for j := range log {
				is, ok := impl.AheadOf(log, 4, i, j)
				wantTold(t, "many", is, ok, wantedAhead(log, i, j))
			}
		}
	}
	for _, count := range []int{201, 202, 5000} {
		for _, place := range [][2]int{{0, 0}, {0, 1}, {199, 200}, {count - 2, count - 1}} {
			is, ok := impl.AheadOf(p.log(4, count), 4, place[0], place[1])
			wantNotTold(t, "too many", is, ok)
		}
	}
}

func TestAheadOfNoPlaces(t *testing.T) {
	for _, log := range [][]impl.Done{nil, {}, doneOf("001"), doneOf("001 0w1"), playedRun(3, 2, nil)} {
		for _, x := range append(oddInts(), -2, -1, len(log), len(log)+1) {
			if 0 <= x && x < len(log) {
				continue
			}
			for _, y := range append(oddInts(), -1, 0, 1) {
				is, ok := impl.AheadOf(log, 2, x, y)
				wantNotTold(t, "i of "+numberText(x), is, ok)
				is, ok = impl.AheadOf(log, 2, y, x)
				wantNotTold(t, "j of "+numberText(x), is, ok)
			}
		}
	}
}

// Each of the steps counts, also one that is at neither place.
func TestStepsThatAreNotAsSaid(t *testing.T) {
	for hands := 1; hands <= 4; hands++ {
		for name, bad := range badSteps(hands) {
			log := doneOf("001 0w1 002 0w2")
			for at := range log {
				changed := slices.Clone(log)
				changed[at] = bad
				for i := range log {
					for j := range log {
						is, ok := impl.AheadOf(changed, hands, i, j)
						wantNotTold(t, name, is, ok)
					}
				}
				races, ok := impl.RacesIn(2, changed, hands)
				wantNoTable(t, name, races, ok)
			}
		}
	}
	for _, hands := range noHands() {
		for _, log := range [][]impl.Done{nil, doneOf("001 0w1"), doneOf("001 112"), slices.Repeat([]impl.Done{cellStep(hands-1, 0, 1)}, 2)} {
			is, ok := impl.AheadOf(log, hands, 0, 1)
			wantNotTold(t, "hands of "+numberText(hands), is, ok)
			races, ok := impl.RacesIn(1, log, hands)
			wantNoTable(t, "hands of "+numberText(hands), races, ok)
		}
	}
}

// Each step is as said that is of a hand, of one of both kinds, and from and to
// in 0..MaxWord: also one that is none of a run.
func TestStepsAtTheLimits(t *testing.T) {
	for hands := 1; hands <= 4; hands++ {
		for hand := range hands {
			for kind := 1; kind <= 2; kind++ {
				for from := range 11 {
					for to := range 11 {
						step := impl.Done{Hand: hand, Kind: kind, From: from, To: to}
						is, ok := impl.AheadOf([]impl.Done{step, step}, hands, 0, 1)
						wantTold(t, "limits", is, ok, true)
						races, ok := impl.RacesIn(0, []impl.Done{step, step}, hands)
						wantTable(t, "limits", races, ok, nil)
					}
				}
			}
		}
	}
}

func TestRacesIn(t *testing.T) {
	for text, want := range map[string]lists{
		"": nil, "001": nil, "001 001": nil, "001 101": {{0, 1}}, "001 112": nil, "101 001": {{0, 1}},
		"001 102": {{0, 1}}, "002 101": {{0, 1}}, "012 102": {{0, 1}}, "002 112": {{0, 1}}, "001 113": nil, "012 103": nil, "013 102": nil,
		"002 113": nil, "112 013": {{0, 1}}, "123 013": {{0, 1}}, "001 012 102": {{0, 2}, {1, 2}}, "001 002 102": {{0, 2}, {1, 2}}, "00x 101": {{0, 1}},
		"001 0w1 112 1w1 002 0w2 1w2": nil, "001 0w1 112 002 1w1 0w2 1w2": nil, "001 0w1 002 112 1w1": {{2, 3}},
		"001 1w1 102": nil, "001 0w1 102": {{0, 2}}, "001 0w1 1w1 102": nil, "001 1w1 0w1 102": nil, "0w1 001 1w1 102": {{1, 3}}, "0w1 001 1w1 1w2 102": nil,
		"1w1 1w2 101 001 0w1 001": {{2, 3}, {2, 5}}, "1w1 101 0w1 0w2 002": nil,
		"0w1 101": nil, "001 101 001 101": {{0, 1}, {0, 3}, {1, 2}, {2, 3}}, "0w1 1w1": nil, "0w1 1w1 001 101": {{2, 3}},
		"021 111": {{0, 1}}, "020 120": {{0, 1}}, "011 101": {{0, 1}}, "000 100": {{0, 1}}, "000 111": nil, "030 100": {{0, 1}}, "030 131": {{0, 1}}, "030 103": nil,
	} {
		for n := range 11 {
			races, ok := impl.RacesIn(n, doneOf(text), 2)
			wantTable(t, text, races, ok, want)
		}
	}
	races, ok := impl.RacesIn(3, doneOf("001 101 201 301"), 4)
	wantTable(t, "four hands", races, ok, lists{{0, 1}, {0, 2}, {0, 3}, {1, 2}, {1, 3}, {2, 3}})
	races, ok = impl.RacesIn(3, doneOf("001 1w1 101 2w1 2w2 201"), 4)
	wantTable(t, "with waits", races, ok, nil)
}

// Two cells by two hands, each with each.
func TestRacesInOfTwoCells(t *testing.T) {
	places := append(cellPlaces(10), lists{{0, 0}, {3, 3}, {10, 10}, {4, 2}, {10, 0}, {2, 1}}...)
	for _, one := range places {
		for _, other := range places {
			a, b := cellStep(0, one[0], one[1]), cellStep(1, other[0], other[1])
			var want lists
			if slices.Equal(one, other) || isReadBy(a, b) || isReadBy(b, a) {
				want = lists{{0, 1}}
			}
			races, ok := impl.RacesIn(10, []impl.Done{a, b}, 2)
			wantTable(t, "two cells", races, ok, want)
			a.Kind = 2
			races, ok = impl.RacesIn(10, []impl.Done{a, b}, 2)
			wantTable(t, "one waits", races, ok, nil)
			races, ok = impl.RacesIn(10, []impl.Done{b, a}, 2)
			wantTable(t, "the other waits", races, ok, nil)
		}
	}
}

func TestRacesInOfAnySteps(t *testing.T) {
	p, seen := picker{19}, tally{}
	for range 400 {
		hands := 1 + p.pick(4)
		log := p.log(hands, p.pick(16))
		want := wantedRaces(log)
		races, ok := impl.RacesIn(p.pick(11), log, hands)
		wantTable(t, "any steps", races, ok, want)
		seen[len(want) > 0]++
	}
	seen.wantBoth(t, 100)
}

func TestRacesInOfManySteps(t *testing.T) {
	p := picker{23}
	for _, count := range []int{199, 200} {
		log := p.log(4, count)
		races, ok := impl.RacesIn(10, log, 4)
		wantTable(t, "many", races, ok, wantedRaces(log))
		for at := range log {
			log[at] = cellStep(at%2, 0, 1)
		}
		races, ok = impl.RacesIn(10, log, 2)
		wantTable(t, "the most", races, ok, wantedRaces(log))
		if len(races) < 9900 {
			t.Error(len(races))
		}
	}
	for _, count := range []int{201, 202, 5000} {
		races, ok := impl.RacesIn(10, p.log(4, count), 4)
		wantNoTable(t, "too many", races, ok)
		races, ok = impl.RacesIn(10, slices.Repeat(doneOf("001"), count), 4)
		wantNoTable(t, "too many of one hand", races, ok)
	}
}

func TestRacesInWithoutAWord(t *testing.T) {
	for _, n := range noLengths() {
		for _, log := range [][]impl.Done{nil, doneOf("001 101"), playedRun(3, 2, nil)} {
			races, ok := impl.RacesIn(n, log, 2)
			wantNoTable(t, "n of "+numberText(n), races, ok)
		}
	}
}
