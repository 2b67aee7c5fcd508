package tests

import (
	"testing"

	"loop.example/g00758/impl"
)

func TestPropsCasesAreGoodGrammars(t *testing.T) {
	seen := map[string]bool{}
	for _, c := range propsCases() {
		if !impl.GoodGrammar(c.grammar()) || !impl.GoodGrammar(grammarOf(c.usefulText())) || seen[c.name] {
			t.Error("no good case:", c.name)
		}
		seen[c.name] = true
	}
}

func TestNullableOf(t *testing.T) {
	for _, c := range propsCases() {
		l, ok := impl.NullableOf(c.grammar())
		wantList(t, c.name, l, ok, nonsOf(c.nullable)...)
	}
}

func TestProductiveOf(t *testing.T) {
	for _, c := range propsCases() {
		l, ok := impl.ProductiveOf(c.grammar())
		wantList(t, c.name, l, ok, nonsOf(c.productive)...)
	}
}

func TestReachedOf(t *testing.T) {
	for _, c := range propsCases() {
		l, ok := impl.ReachedOf(c.grammar())
		wantList(t, c.name, l, ok, nonsOf(c.reached)...)
	}
}

func TestGrowingOf(t *testing.T) {
	for _, c := range propsCases() {
		l, ok := impl.GrowingOf(c.grammar())
		wantList(t, c.name, l, ok, nonsOf(c.growing)...)
	}
}

func TestUsefulOf(t *testing.T) {
	for _, c := range propsCases() {
		u, ok := impl.UsefulOf(c.grammar())
		wantGrammar(t, c.name, u, ok, grammarOf(c.usefulText()))
	}
}

func TestIsUseful(t *testing.T) {
	for _, c := range propsCases() {
		is, ok := impl.IsUseful(c.grammar())
		wantTold(t, c.name, is, ok, c.usefulText() == c.text)
		is, ok = impl.IsUseful(grammarOf(c.usefulText()))
		wantTold(t, c.name+", what is useful of it", is, ok, true)
	}
}

func TestIsFinite(t *testing.T) {
	for _, c := range propsCases() {
		is, ok := impl.IsFinite(c.grammar())
		wantTold(t, c.name, is, ok, c.finite)
	}
}

func TestLeastLong(t *testing.T) {
	for _, c := range propsCases() {
		n, ok := impl.LeastLong(c.grammar())
		wantLeast(t, c.name, n, ok, c.least)
	}
}

func wantTold(t *testing.T, name string, got, ok, want bool) {
	t.Helper()
	if !ok || got != want {
		t.Errorf("%s: got %v, %v; want %v, true", name, got, ok, want)
	}
}

// wantLeast wants zero and false where there is no word.
func wantLeast(t *testing.T, name string, got int, ok bool, want int) {
	t.Helper()
	if want == noWord && (got != 0 || ok) || want != noWord && (got != want || !ok) {
		t.Errorf("%s: got %v, %v; want %v", name, got, ok, want)
	}
}

func TestPropsOfGrammarsThatAreNotGood(t *testing.T) {
	for name, g := range badGrammars() {
		wantNoProps(t, name, askProps(g))
	}
	for _, x := range append(oddInts(), token(2), 2) {
		for at := range 3 {
			g := grammarOf("2 2;S=aA;A=b;S=")
			g.Rules[at].Right = append(g.Rules[at].Right, x)
			wantNoProps(t, numberText(x), askProps(g))
		}
	}
}

func wantNoProps(t *testing.T, name string, a propsAnswers) {
	t.Helper()
	wantNoList(t, name+" NullableOf", a.Nullable, a.NullableOk)
	wantNoList(t, name+" ProductiveOf", a.Productive, a.ProductiveOk)
	wantNoList(t, name+" ReachedOf", a.Reached, a.ReachedOk)
	wantNoList(t, name+" GrowingOf", a.Growing, a.GrowingOk)
	wantNoGrammar(t, name+" UsefulOf", a.Useful, a.UsefulOk)
	if a.IsUseful || a.IsUsefulOk || a.Finite || a.FiniteOk || a.Least != 0 || a.LeastOk {
		t.Errorf("%s: got %+v; want the zero answers", name, a)
	}
}
