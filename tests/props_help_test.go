package tests

import (
	"strings"

	"loop.example/g00758/impl"
)

// grammarOf reads a grammar as its text with `;` between the lines, by the
// tests' own reading, and trusts that the text is right.
func grammarOf(text string) impl.Grammar {
	lines := strings.Split(text, ";")
	g := grammar(int(lines[0][0]-'0'), int(lines[0][2]-'0'))
	for _, line := range lines[1:] {
		g.Rules = append(g.Rules, rule(strings.IndexByte(nonLetters, line[0]), symbolsOf(line[2:])...))
	}
	return g
}

// nonsOf reads nonterminals by their letters.
func nonsOf(letters string) []int {
	var nons []int
	for _, c := range []byte(letters) {
		nons = append(nons, strings.IndexByte(nonLetters, c))
	}
	return nons
}

// same stands for a useful grammar that is the grammar itself.
const same = "same"

// noWord stands for the shortest word's length where there is no word.
const noWord = -1

// propsCase is a grammar and all that chapter 3 tells of it, written by hand.
type propsCase struct {
	name, text                             string
	nullable, productive, reached, growing string
	useful                                 string
	finite                                 bool
	least                                  int
}

func (c propsCase) grammar() impl.Grammar { return grammarOf(c.text) }

func (c propsCase) usefulText() string {
	if c.useful == same {
		return c.text
	}
	return c.useful
}

func propsCases() []propsCase {
	cases := plainCases()
	cases = append(cases, chainCases()...)
	cases = append(cases, emptyCases()...)
	cases = append(cases, uselessCases()...)
	cases = append(cases, roundCases()...)
	return append(cases, lengthCases()...)
}

func plainCases() []propsCase {
	return []propsCase{
		{"no rules", "1 1", "", "", "S", "", same, true, noWord},
		{"no rules, most symbols", "6 4", "", "", "S", "", same, true, noWord},
		{"empty Right alone", "1 1;S=", "S", "S", "S", "", same, true, 0},
		{"empty Rights alone", "3 1;S=;A=;B=", "SAB", "SAB", "S", "", "3 1;S=", true, 0},
		{"empty Rights alone, not of the start", "3 1;A=;B=", "AB", "AB", "S", "", "3 1", true, noWord},
		{"one token", "1 1;S=a", "", "S", "S", "S", same, true, 1},
		{"last token", "1 4;S=d", "", "S", "S", "S", same, true, 1},
		{"pairs", "1 2;S=aSb;S=", "S", "S", "S", "S", same, false, 0},
		{"sums", "3 3;S=SaA;S=A;A=AbB;A=B;B=c", "", "SAB", "SAB", "SAB", same, false, 1},
		{"twice itself", "1 1;S=SS;S=a", "", "S", "S", "S", same, false, 1},
		{"no rule of one", "2 1;S=A", "", "", "SA", "", "2 1", true, noWord},
		{"no rule of one beside a word", "2 1;S=a;S=aA", "", "S", "SA", "S", "2 1;S=a", true, 1},
		{"no rule of the last of six", "6 1;S=a;S=E;S=Ea", "", "S", "SE", "S", "6 1;S=a", true, 1},
		{"no rule of the start", "2 1;A=a", "", "A", "S", "A", "2 1", true, noWord},
		{"only back to itself", "1 1;S=S", "", "", "S", "", "1 1", true, noWord},
		{"only back to itself, a token ahead", "1 1;S=aS", "", "", "S", "", "1 1", true, noWord},
		{"only back by another", "2 1;S=A;A=S", "", "", "SA", "", "2 1", true, noWord},
		{"only back by another, with tokens", "2 2;S=aA;A=Sb", "", "", "SA", "", "2 2", true, noWord},
		{"only back, beside a word", "2 1;S=a;S=A;A=AA;A=aAa", "", "S", "SA", "S", "2 1;S=a", true, 1},
		{"stands for itself", "1 1;S=S;S=a", "", "S", "S", "S", same, true, 1},
		{"stands for itself, rule last", "1 1;S=a;S=S", "", "S", "S", "S", same, true, 1},
		{"stands for itself, empty", "1 1;S=S;S=", "S", "S", "S", "", same, true, 0},
		{"two stand for each other", "2 1;S=A;A=S;A=a", "", "SA", "SA", "SA", same, true, 1},
		{"token beside what derives nothing", "2 1;S=;S=aA;A=A", "S", "S", "SA", "", "2 1;S=", true, 0},
	}
}

// chainCases have all six nonterminals in a row, the rules in order and against it.
func chainCases() []propsCase {
	const all = "SABCDE"
	return []propsCase{
		{"chain to a token", "6 1;S=A;A=B;B=C;C=D;D=E;E=a", "", all, all, all, same, true, 1},
		{"chain to a token, against", "6 1;E=a;D=E;C=D;B=C;A=B;S=A", "", all, all, all, same, true, 1},
		{"chain downwards", "6 1;S=E;E=D;D=C;C=B;B=A;A=a", "", all, all, all, same, true, 1},
		{"chain downwards, against", "6 1;A=a;B=A;C=B;D=C;E=D;S=E", "", all, all, all, same, true, 1},
		{"chain to nothing", "6 1;S=A;A=B;B=C;C=D;D=E;E=", all, all, all, "", same, true, 0},
		{"chain to nothing, against", "6 1;E=;D=E;C=D;B=C;A=B;S=A", all, all, all, "", same, true, 0},
		{"chain to no rule", "6 1;S=A;A=B;B=C;C=D;D=E", "", "", all, "", "6 1", true, noWord},
		{"chain to no rule, against", "6 1;D=E;C=D;B=C;A=B;S=A", "", "", all, "", "6 1", true, noWord},
		{"chain of tokens", "6 1;S=aA;A=aB;B=aC;C=aD;D=aE;E=", "E", all, all, "SABCD", same, true, 5},
		{"chain of tokens, against", "6 1;E=;D=aE;C=aD;B=aC;A=aB;S=aA", "E", all, all, "SABCD", same, true, 5},
		{"round of all", "6 1;S=A;A=B;B=C;C=D;D=E;E=S;E=a", "", all, all, all, same, true, 1},
		{"round of all with a token", "6 1;S=A;A=B;B=C;C=D;D=E;E=Sa;E=", all, all, all, all, same, false, 0},
		{"round of all with a token, against", "6 1;E=;E=aS;D=E;C=D;B=C;A=B;S=A", all, all, all, all, same, false, 0},
		{"chain broken in the middle", "6 1;S=A;A=B;C=D;D=E;E=a", "", "CDE", "SAB", "CDE", "6 1", true, noWord},
		{"chain that ends at the start", "6 1;E=D;D=C;C=B;B=A;A=S;S=a", "", all, "S", all, "6 1;S=a", true, 1},
	}
}

// emptyCases have what derives the empty word at each place of a Right.
func emptyCases() []propsCase {
	return []propsCase{
		{"empty ahead of a token", "2 1;S=Aa;A=", "A", "SA", "SA", "S", same, true, 1},
		{"empty behind a token", "2 1;S=aA;A=", "A", "SA", "SA", "S", same, true, 1},
		{"empty between tokens", "2 2;S=aAb;A=", "A", "SA", "SA", "S", same, true, 2},
		{"empty ahead of another", "3 1;S=AB;A=;B=a", "A", "SAB", "SAB", "SB", same, true, 1},
		{"empty between others", "3 1;S=BAB;A=;B=a", "A", "SAB", "SAB", "SB", same, true, 2},
		{"empty behind another", "3 1;S=BA;A=;B=a", "A", "SAB", "SAB", "SB", same, true, 1},
		{"empty on both sides", "3 1;S=ABA;A=;B=a", "A", "SAB", "SAB", "SB", same, true, 1},
		{"empty at all places", "3 1;S=ABAB;A=;B=A", "SAB", "SAB", "SAB", "", same, true, 0},
		{"empty at all places but the first", "3 1;S=BAAA;A=;B=a", "A", "SAB", "SAB", "SB", same, true, 1},
		{"empty at all places but the last", "3 1;S=AAAB;A=;B=a", "A", "SAB", "SAB", "SB", same, true, 1},
		{"empty beside no word", "3 1;S=ABA;A=;B=B", "A", "A", "SAB", "", "3 1", true, noWord},
		{"empty or a token", "2 1;S=AA;A=;A=a", "SA", "SA", "SA", "SA", same, true, 0},
		{"empty known late", "4 1;S=ABC;A=B;B=C;C=", "SABC", "SABC", "SABC", "", same, true, 0},
	}
}

// uselessCases have what is only productive, or only reached.
func uselessCases() []propsCase {
	return []propsCase{
		{"productive, not reached", "2 1;S=a;A=a", "", "SA", "S", "SA", "2 1;S=a", true, 1},
		{"reached, not productive", "2 1;S=a;S=A;A=aA", "", "S", "SA", "S", "2 1;S=a", true, 1},
		{"neither", "2 1;S=a;A=aA", "", "S", "S", "S", "2 1;S=a", true, 1},
		{"only way falls away", "3 2;S=a;S=AB;A=b;B=aB", "", "SA", "SAB", "SA", "3 2;S=a", true, 1},
		{"only way falls away, far", "5 2;C=b;B=C;A=B;S=AD;S=a;D=D", "", "SABC", "SABCD", "SABC", "5 2;S=a", true, 1},
		{"one way of two falls away", "3 2;S=AB;S=aA;A=b;B=aB", "", "SA", "SAB", "SA", "3 2;S=aA;A=b", true, 2},
		{"falls away at the last place", "2 1;S=aaaA;S=", "S", "S", "SA", "", "2 1;S=", true, 0},
		{"falls away at the first place", "2 1;S=Aaaa;S=", "S", "S", "SA", "", "2 1;S=", true, 0},
		{"start derives nothing", "2 1;S=SA;A=a", "", "A", "SA", "A", "2 1", true, noWord},
		{"start derives nothing, most symbols", "6 4;S=aE;A=b;B=AA", "", "AB", "SE", "AB", "6 4", true, noWord},
		{"not reached reaches the start", "2 1;A=S;S=a", "", "SA", "S", "SA", "2 1;S=a", true, 1},
		{"not reached reach each other", "3 1;A=B;S=;B=A;B=a", "S", "SAB", "S", "AB", "3 1;S=", true, 0},
		{"rules in order", "5 2;B=b;S=AB;C=a;S=CD;A=;S=a;A=Aa", "A", "SABC", "SABCD", "SABC", "5 2;B=b;S=AB;A=;S=a;A=Aa", false, 1},
		{"all of it useful", "3 2;B=b;A=BB;S=AB;A=;S=bAa;B=S", "A", "SAB", "SAB", "SAB", same, false, 1},
	}
}

// roundCases tell finite languages from those that only look so.
func roundCases() []propsCase {
	return []propsCase{
		{"many words", "3 2;S=AABB;A=a;A=;B=bbbb;B=a;B=A", "SAB", "SAB", "SAB", "SAB", same, true, 0},
		{"round beside the empty word", "2 1;S=ASA;S=a;A=", "A", "SA", "SA", "S", same, true, 1},
		{"round beside two of them", "3 1;S=SAB;S=a;A=B;B=", "AB", "SAB", "SAB", "S", same, true, 1},
		{"round beside itself, empty", "1 1;S=SS;S=", "S", "S", "S", "", same, true, 0},
		{"round by another, empty", "2 1;S=AA;A=S;A=", "SA", "SA", "SA", "", same, true, 0},
		{"round by another, a token at last", "2 1;S=AA;A=S;A=;A=a", "SA", "SA", "SA", "SA", same, false, 0},
		{"round with a token ahead", "1 1;S=aS;S=", "S", "S", "S", "S", same, false, 0},
		{"round with a token behind", "1 1;S=Sa;S=", "S", "S", "S", "S", same, false, 0},
		{"round at the last of four", "2 1;S=AAaS;S=;A=", "SA", "SA", "SA", "S", same, false, 0},
		{"round at the first of four", "2 1;S=SaAA;S=;A=", "SA", "SA", "SA", "S", same, false, 0},
		{"round beside what can grow", "2 1;S=SA;S=;A=;A=a", "SA", "SA", "SA", "SA", same, false, 0},
		{"round behind what can grow", "2 1;S=AS;S=;A=a;A=", "SA", "SA", "SA", "SA", same, false, 0},
		{"round beside what grows by no word", "3 1;S=SA;S=;A=;A=aB;B=aB", "SA", "SA", "SAB", "", "3 1;S=SA;S=;A=", true, 0},
		{"round not of the start", "2 2;S=aA;A=Ab;A=a", "", "SA", "SA", "SA", same, false, 2},
		{"round that is not reached", "2 1;S=a;A=aA;A=a", "", "SA", "S", "SA", "2 1;S=a", true, 1},
		{"round with no word", "2 1;S=a;S=A;A=aA", "", "S", "SA", "S", "2 1;S=a", true, 1},
		{"round beside no word", "3 1;S=a;S=AB;A=aA;A=a;B=B", "", "SA", "SAB", "SA", "3 1;S=a", true, 1},
		{"round of a rule with no word", "2 1;S=a;S=SAa;A=A", "", "S", "SA", "S", "2 1;S=a", true, 1},
		{"token outside the round", "2 2;S=aA;A=A;A=b", "", "SA", "SA", "SA", same, true, 2},
		{"token on the way out", "3 1;S=A;A=S;A=aB;B=a", "", "SAB", "SAB", "SAB", same, true, 2},
		{"two rounds, the later one grows", "3 1;S=S;S=A;A=B;B=A;B=aB;B=", "SAB", "SAB", "SAB", "SAB", same, false, 0},
		{"token in the second step", "3 1;S=A;A=B;B=aS;B=", "SAB", "SAB", "SAB", "SAB", same, false, 0},
	}
}

// lengthCases have shortest words that are found late.
func lengthCases() []propsCase {
	const all = "SABCDE"
	return []propsCase{
		{"shortest by a longer Right", "4 1;S=A;A=aaaa;S=BBCB;B=;C=a", "B", "SABC", "SABC", "SAC", same, true, 1},
		{"shortest by the last rule", "1 1;S=aaaa;S=aaa;S=aa;S=a", "", "S", "S", "S", same, true, 1},
		{"shortest by the first rule", "1 1;S=a;S=aa;S=aaa;S=aaaa", "", "S", "S", "S", same, true, 1},
		{"shorter again and again", "5 1;S=AA;S=aaaa;A=BB;A=aaa;B=CC;B=aa;C=DD;C=a;D=;D=a", "SABCD", "SABCD", "SABCD", "SABCD", same, true, 0},
		{"shortest round about", "4 1;S=aaaa;S=A;A=B;B=C;C=aa", "", "SABC", "SABC", "SABC", same, true, 2},
		{"twice at each step", "6 1;S=AA;A=BB;B=CC;C=DD;D=EE;E=aa", "", all, all, all, same, true, 64},
		{"four times at each step", "6 1;S=AAAA;A=BBBB;B=CCCC;C=DDDD;D=EEEE;E=aaaa", "", all, all, all, same, true, 4096},
		{"four times at each step, against", "6 1;E=aaaa;D=EEEE;C=DDDD;B=CCCC;A=BBBB;S=AAAA", "", all, all, all, same, true, 4096},
		{"four times, with a round", "6 1;S=AAAA;A=BBBB;B=CCCC;C=DDDD;D=EEEE;E=Sa;E=aaaa", "", all, all, all, same, false, 4096},
		{"four times, and a way out", "6 2;S=AAAA;A=BBBB;B=CCCC;C=DDDD;D=EEEE;E=aaaa;C=bbb", "", all, all, all, same, true, 192},
		{"four times, and nothing", "6 1;S=AAAA;A=BBBB;B=CCCC;C=DDDD;D=EEEE", "", "", all, "", "6 1", true, noWord},
	}
}
