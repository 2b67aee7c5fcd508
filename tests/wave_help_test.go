package tests

import (
	"math"
	"slices"
	"strings"
	"testing"

	"loop.example/g00758/impl"
)

// doneOf reads steps: a hand, and from and to of the cell that it makes, or a w
// and the length for which it waits; x is ten.
func doneOf(text string) []impl.Done {
	var log []impl.Done
	for _, field := range strings.Fields(text) {
		at := func(i int) int { return strings.IndexByte("0123456789x", field[i]) }
		if field[1] == 'w' {
			log = append(log, waitStep(at(0), at(2)))
			continue
		}
		log = append(log, cellStep(at(0), at(1), at(2)))
	}
	return log
}

func cellStep(hand, from, to int) impl.Done {
	return impl.Done{Hand: hand, Kind: 1, From: from, To: to}
}

func waitStep(hand, long int) impl.Done {
	return impl.Done{Hand: hand, Kind: 2, To: long}
}

// fromsOf is a part by the words of the document.
func fromsOf(n, hands, hand, long int) []int {
	var froms []int
	for from := range n - long + 1 {
		if from%hands == hand {
			froms = append(froms, from)
		}
	}
	return froms
}

// playedHand is what a hand is at: a length, how many cells of it are made, and
// whether it waits.
type playedHand struct {
	long, made int
	waits      bool
}

// playedWave is a run as the document tells it, one step at a time.
type playedWave struct {
	n     int
	hands []playedHand
	log   []impl.Done
}

func newPlayedWave(n, hands int) *playedWave {
	return &playedWave{n: n, hands: slices.Repeat([]playedHand{{long: 1}}, hands)}
}

func (p *playedWave) copy() *playedWave {
	return &playedWave{p.n, slices.Clone(p.hands), slices.Clone(p.log)}
}

// able are the hands that have a step to do, in order.
func (p *playedWave) able() []int {
	var able []int
	for number, h := range p.hands {
		if h.long <= p.n && !h.waits {
			able = append(able, number)
		}
	}
	return able
}

func (p *playedWave) next(number int) impl.Done {
	h := p.hands[number]
	froms := fromsOf(p.n, len(p.hands), number, h.long)
	if h.made < len(froms) {
		return cellStep(number, froms[h.made], froms[h.made]+h.long)
	}
	return waitStep(number, h.long)
}

func (p *playedWave) do(number int) {
	step := p.next(number)
	p.log = append(p.log, step)
	h := &p.hands[number]
	if step.Kind == 1 {
		h.made++
		return
	}
	h.waits = true
	if !slices.ContainsFunc(p.hands, func(h playedHand) bool { return !h.waits }) {
		for number, h := range p.hands {
			p.hands[number] = playedHand{long: h.long + 1}
		}
	}
}

// playedRun does what the picks tell, and the first one that can where there
// are none left.
func playedRun(n, hands int, picks []int) []impl.Done {
	p := newPlayedWave(n, hands)
	for able := p.able(); len(able) > 0; able = p.able() {
		pick := 0
		if len(picks) > 0 {
			pick, picks = picks[0], picks[1:]
		}
		p.do(able[pick%len(able)])
	}
	return p.log
}

// isPlayed tells whether some picks bring a log about: at each step one of the
// hands that have one to do does what is next in the log.
func isPlayed(n, hands int, log []impl.Done) bool {
	p := newPlayedWave(n, hands)
	for _, step := range log {
		at := slices.IndexFunc(p.able(), func(number int) bool { return p.next(number) == step })
		if at < 0 {
			return false
		}
		p.do(p.able()[at])
	}
	return len(p.able()) == 0
}

// eachRun has all runs there are, with the picks that bring each about.
func eachRun(n, hands int, ask func(picks []int, log []impl.Done)) {
	var goOn func(p *playedWave, picks []int)
	goOn = func(p *playedWave, picks []int) {
		able := p.able()
		if len(able) == 0 {
			ask(picks, p.log)
		}
		for place, number := range able {
			next := p.copy()
			next.do(number)
			goOn(next, append(slices.Clone(picks), place))
		}
	}
	goOn(newPlayedWave(n, hands), nil)
}

// waitsBefore counts the waits of the hand at a place that are ahead of it.
func waitsBefore(log []impl.Done, place int) int {
	count := 0
	for _, step := range log[:place] {
		if step.Hand == log[place].Hand && step.Kind == 2 {
			count++
		}
	}
	return count
}

func wantedAhead(log []impl.Done, i, j int) bool {
	return i < j && (log[i].Hand == log[j].Hand || waitsBefore(log, j) > waitsBefore(log, i))
}

// isReadBy tells whether a cell is shorter than another one and within it at
// one of its ends.
func isReadBy(one, other impl.Done) bool {
	return one.To-one.From < other.To-other.From &&
		(one.From == other.From && one.To <= other.To || one.To == other.To && one.From >= other.From)
}

func wantedRaces(log []impl.Done) lists {
	var races lists
	for i, one := range log {
		for j, other := range log {
			isSame := one.From == other.From && one.To == other.To
			if i < j && one.Kind == 1 && other.Kind == 1 && !wantedAhead(log, i, j) && !wantedAhead(log, j, i) &&
				(isSame || isReadBy(one, other) || isReadBy(other, one)) {
				races = append(races, []int{i, j})
			}
		}
	}
	return races
}

func wantRun(t *testing.T, name string, c impl.Chart, log []impl.Done, ok bool, chart impl.Chart, want []impl.Done) {
	t.Helper()
	wantChart(t, name, c, ok, chart)
	if !slices.Equal(log, want) {
		t.Errorf("%s: got steps %v; want %v", name, log, want)
	}
}

func wantNoRun(t *testing.T, name string, c impl.Chart, log []impl.Done, ok bool) {
	t.Helper()
	wantNoChart(t, name, c, ok)
	if len(log) != 0 {
		t.Errorf("%s: got steps %v; want none", name, log)
	}
}

// noHands are numbers that hands can not have.
func noHands() []int { return append(oddInts(), -2, -1, 0, 5, 6) }

// noLengths are numbers that no word has tokens.
func noLengths() []int { return append(oddInts(), -2, -1, 11, 12) }

func (p *picker) picks(count int) []int {
	picks := make([]int, count)
	for at := range picks {
		picks[at] = p.pick(1000)
	}
	return picks
}

// step is of a hand, and mostly of a short part.
func (p *picker) step(hands int) impl.Done {
	most := []int{3, 4, 11}[p.pick(3)]
	return impl.Done{Hand: p.pick(hands), Kind: 1 + p.pick(8)/6, From: p.pick(most), To: p.pick(most)}
}

func (p *picker) log(hands, count int) []impl.Done {
	log := make([]impl.Done, count)
	for at := range log {
		log[at] = p.step(hands)
	}
	return log
}

// badSteps each break one demand on the steps of so many hands.
func badSteps(hands int) map[string]impl.Done {
	bad := map[string]impl.Done{"a hand behind": cellStep(hands, 0, 1), "a hand ahead": waitStep(-1, 1), "both kinds": {Kind: 3, To: 1}, "zero value": {}}
	for _, x := range append(oddInts(), -1, 11, 12) {
		bad["hand "+numberText(x)] = cellStep(x, 0, 1)
		bad["waiting hand "+numberText(x)] = waitStep(x, 1)
		bad["kind "+numberText(x)] = impl.Done{Kind: x, To: 1}
		bad["from "+numberText(x)] = cellStep(0, x, 1)
		bad["to "+numberText(x)] = cellStep(0, 0, x)
		bad["waiting from "+numberText(x)] = impl.Done{Kind: 2, From: x, To: 1}
		bad["waiting to "+numberText(x)] = waitStep(0, x)
	}
	return bad
}

// changedSteps has a step with each of its fields changed in turn.
func changedSteps(step impl.Done) []impl.Done {
	var out []impl.Done
	for field := range 4 {
		for _, by := range []int{-1, 1, 2, 17, math.MinInt, math.MaxInt} {
			changed := step
			*[]*int{&changed.Hand, &changed.Kind, &changed.From, &changed.To}[field] += by
			out = append(out, changed)
		}
	}
	return out
}
