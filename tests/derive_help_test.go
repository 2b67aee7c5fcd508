package tests

import (
	"slices"
	"strings"
	"testing"

	"loop.example/g00758/impl"
)

// wordOf reads a word by its letters.
func wordOf(letters string) []int {
	w := []int{}
	for _, c := range []byte(letters) {
		w = append(w, strings.IndexByte(tokLetters, c))
	}
	return w
}

// symbolsOf reads symbols by their letters.
func symbolsOf(letters string) []int {
	list := []int{}
	for _, c := range []byte(letters) {
		if x := strings.IndexByte(nonLetters, c); x >= 0 {
			list = append(list, x)
		} else {
			list = append(list, token(strings.IndexByte(tokLetters, c)))
		}
	}
	return list
}

func lettersOf(symbols []int) string {
	var text strings.Builder
	for _, x := range symbols {
		if x >= 0 {
			text.WriteByte(nonLetters[x])
		} else {
			text.WriteByte(tokLetters[-1-x])
		}
	}
	return text.String()
}

func wordLetters(w []int) string {
	var text strings.Builder
	for _, t := range w {
		text.WriteByte(tokLetters[t])
	}
	return text.String()
}

// texts are words by their letters; those of each length stand apart.
type texts []map[string]bool

func noTexts(most int) texts {
	set := texts{}
	for range most + 1 {
		set = append(set, map[string]bool{})
	}
	return set
}

func (s texts) has(text string) bool { return s[len(text)][text] }

func (s texts) put(text string) bool {
	isNew := !s.has(text)
	s[len(text)][text] = true
	return isNew
}

// all gives the words in the order of ShortWords, as many tokens as said at most.
func (s texts) all(most int) []string {
	var list []string
	for _, set := range s[:most+1] {
		var same []string
		for text := range set {
			same = append(same, text)
		}
		slices.Sort(same)
		list = append(list, same...)
	}
	return list
}

// behind gives each word of s with each of the others behind it.
func (s texts) behind(others texts) texts {
	out := noTexts(len(s) - 1)
	for long, heads := range s {
		for head := range heads {
			for _, tails := range others[:len(s)-long] {
				for tail := range tails {
					out.put(head + tail)
				}
			}
		}
	}
	return out
}

// derivedWords has for each nonterminal the words that it derives.
type derivedWords []texts

// enumerated puts together all words up to a length, of those that are there
// already, until no rule makes a new one.
func enumerated(g impl.Grammar, most int) derivedWords {
	found := derivedWords{}
	for range g.Nons {
		found = append(found, noTexts(most))
	}
	for again := true; again; {
		again = false
		for _, r := range g.Rules {
			for _, text := range found.of(r.Right, most).all(most) {
				again = found[r.Left].put(text) || again
			}
		}
	}
	return found
}

// of gives the words that symbols derive, one behind the other.
func (d derivedWords) of(symbols []int, most int) texts {
	words := noTexts(most)
	words.put("")
	for _, x := range symbols {
		if x >= 0 {
			words = words.behind(d[x])
			continue
		}
		alone := noTexts(max(most, 1))
		alone.put(tokLetters[-1-x : -x])
		words = words.behind(alone)
	}
	return words
}

func wantTable(t *testing.T, name string, got [][]int, ok bool, want [][]int) {
	t.Helper()
	if !ok || !slices.EqualFunc(got, want, slices.Equal[[]int]) {
		t.Errorf("%s: got %v, %v; want %v, true", name, got, ok, want)
	}
}

func wantNoTable(t *testing.T, name string, got [][]int, ok bool) {
	t.Helper()
	if ok || len(got) != 0 {
		t.Errorf("%s: got %v, %v; want the zero answer", name, got, ok)
	}
}

func wantNotTold(t *testing.T, name string, got, ok bool) {
	t.Helper()
	if got || ok {
		t.Errorf("%s: got %v, %v; want false, false", name, got, ok)
	}
}
