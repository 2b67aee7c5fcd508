package tests

import (
	"regexp"
	"strings"
	"testing"

	"loop.example/g00758/impl"
)

const (
	nonLetters = "SABCDE"
	tokLetters = "abcd"
)

// fullLines gives up to 24 lines of four symbols each, no two the same, over all letters.
func fullLines(count int) string {
	var text strings.Builder
	for i := 0; i < count; i++ {
		text.WriteByte(nonLetters[i%6])
		text.WriteString("=dE")
		text.WriteByte(tokLetters[i/6])
		text.WriteByte(nonLetters[5-i%6])
		text.WriteByte('\n')
	}
	return text.String()
}

// fullText is the longest text of a grammar.
func fullText() string { return "6 4\n" + fullLines(16) }

// wantedTexts are grammars with their texts, written by hand.
func wantedTexts() map[string]impl.Grammar {
	return map[string]impl.Grammar{
		"1 2\nS=aSb\nS=\n": grammar(1, 2, rule(0, token(0), 0, token(1)), rule(0)),
		"3 3\nS=SaA\nS=A\nA=AbB\nA=B\nB=c\n": grammar(3, 3, rule(0, 0, token(0), 1), rule(0, 1),
			rule(1, 1, token(1), 2), rule(1, 2), rule(2, token(2))),
		"1 1\n":         grammar(1, 1),
		"6 4\n":         grammar(6, 4),
		"6 1\n":         grammar(6, 1),
		"1 4\n":         grammar(1, 4),
		"1 1\nS=\n":     grammar(1, 1, rule(0)),
		"2 1\nA=\nS=\n": grammar(2, 1, rule(1), rule(0)),
		"6 4\nE=SABC\nD=DEab\nC=cd\n": grammar(6, 4, rule(5, 0, 1, 2, 3), rule(4, 4, 5, token(0), token(1)),
			rule(3, token(2), token(3))),
		"1 1\nS=aaaa\nS=aaa\nS=aa\nS=a\nS=\nS=S\n": grammar(1, 1, rule(0, token(0), token(0), token(0), token(0)),
			rule(0, token(0), token(0), token(0)), rule(0, token(0), token(0)), rule(0, token(0)), rule(0), rule(0, 0)),
	}
}

// textsRead are good texts of every kind.
func textsRead() []string {
	texts := []string{fullText(), "2 2\nS=\nA=\nS=A\nA=S\nS=bAbA\nA=AAAA\nS=bbbb\n"}
	for text := range wantedTexts() {
		texts = append(texts, text)
	}
	return texts
}

// faultIn finds the code and the place by patterns: how far a text goes on as
// a good one could, and what is asked at the end of each line.
func faultIn(s string) (code, place int) {
	if len(s) > 600 {
		return 1, 0
	}
	if at := len(regexp.MustCompile(`^(?:[1-6](?: (?:[1-4]\n?)?)?)?`).FindString(s)); at != 4 {
		return 2, at
	}
	nons, toks := nonLetters[:s[0]-'0'], tokLetters[:s[2]-'0']
	part := regexp.MustCompile(`^(?:[` + nons + `](?:=[` + nons + toks + `]{0,4}\n?)?)?`)
	seen := map[string]bool{}
	for at := 4; at < len(s); {
		line := part.FindString(s[at:])
		switch {
		case !strings.HasSuffix(line, "\n") && len(line) == 6:
			return 4, at + 6
		case !strings.HasSuffix(line, "\n"):
			return 3, at + len(line)
		case seen[line]:
			return 5, at
		case len(seen) == 16:
			return 6, at
		}
		seen[line] = true
		at += len(line)
	}
	return 0, 0
}

func wantFault(t *testing.T, s string, code, place int) {
	t.Helper()
	g, gotCode, gotPlace, ok := impl.ReadGrammar(s)
	if ok || gotCode != code || gotPlace != place || !isZeroGrammar(g) {
		t.Errorf("ReadGrammar(%q): got %v, %d, %d, %v; want none, %d, %d, false", s, g, gotCode, gotPlace, ok, code, place)
	}
}

func wantRead(t *testing.T, s string) impl.Grammar {
	t.Helper()
	g, code, place, ok := impl.ReadGrammar(s)
	if !ok || code != 0 || place != 0 || !impl.GoodGrammar(g) {
		t.Errorf("ReadGrammar(%q): got %v, %d, %d, %v; want a grammar, 0, 0, true", s, g, code, place, ok)
	}
	return g
}

// wantAsFound holds an answer against the patterns, and a grammar against its text.
func wantAsFound(t *testing.T, s string) {
	t.Helper()
	if code, place := faultIn(s); code != 0 {
		wantFault(t, s, code, place)
		return
	}
	if text, ok := impl.GrammarText(wantRead(t, s)); text != s || !ok {
		t.Errorf("GrammarText of the grammar of %q: got %q, %v", s, text, ok)
	}
}
