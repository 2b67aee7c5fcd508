package tests

import (
	"strings"
	"testing"
)

type faultCase struct {
	text        string
	code, place int
}

func wantFaults(t *testing.T, cases []faultCase) {
	t.Helper()
	for _, c := range cases {
		wantFault(t, c.text, c.code, c.place)
		if code, place := faultIn(c.text); code != c.code || place != c.place {
			t.Errorf("the patterns find %d, %d in %q; by hand %d, %d", code, place, c.text, c.code, c.place)
		}
	}
}

func TestCode1(t *testing.T) {
	repeated := "1 1\n" + strings.Repeat("S=aa\n", 120)
	wantFaults(t, []faultCase{
		{strings.Repeat("x", 600), 2, 0},
		{strings.Repeat("x", 601), 1, 0},
		{repeated[:600], 5, 9},
		{repeated[:601], 1, 0},
		{fullText() + strings.Repeat("\n", 600-len(fullText())), 3, len(fullText())},
		{fullText() + strings.Repeat("\n", 601-len(fullText())), 1, 0},
		{strings.Repeat("\x00", 100000), 1, 0},
		{"", 2, 0},
	})
}

func TestCode2(t *testing.T) {
	wantFaults(t, []faultCase{
		{"1", 2, 1}, {"1 ", 2, 2}, {"1 1", 2, 3}, {"6 4", 2, 3},
		{"0 1\n", 2, 0}, {"7 1\n", 2, 0}, {"9 1\n", 2, 0}, {"S 1\n", 2, 0}, {"\n", 2, 0}, {" 1 1\n", 2, 0}, {"-1 1\n", 2, 0},
		{"+1 1\n", 2, 0}, {"01 1\n", 2, 0}, {"/ 1\n", 2, 0}, {": 1\n", 2, 0}, {"\x00 1\n", 2, 0}, {"\x01 1\n", 2, 0}, {"\xff 1\n", 2, 0},
		{"1_1\n", 2, 1}, {"1\t1\n", 2, 1}, {"11\n", 2, 1}, {"12 1\n", 2, 1}, {"1\n1\n", 2, 1}, {"1=1\n", 2, 1},
		{"1 0\n", 2, 2}, {"1 5\n", 2, 2}, {"1 6\n", 2, 2}, {"1 7\n", 2, 2}, {"1  1\n", 2, 2}, {"1 \n", 2, 2}, {"1 a\n", 2, 2}, {"1 -1\n", 2, 2},
		{"1 1 \n", 2, 3}, {"1 1\r\n", 2, 3}, {"1 11\n", 2, 3}, {"1 1S=a\n", 2, 3}, {"1 1\x00", 2, 3}, {"1 1;S=a\n", 2, 3},
		{"7_0\n\nS=zzzzz", 2, 0}, {"1 9\nS=a\nS=a\n", 2, 2},
	})
	for _, text := range []string{"1 1\n", "6 1\n", "1 4\n", "6 4\n", "2 3\n"} {
		wantRead(t, text)
	}
}

func TestFirstLineAtEachByte(t *testing.T) {
	for at := 0; at < 4; at++ {
		for b := 0; b < 256; b++ {
			text := []byte("3 2\n")
			text[at] = byte(b)
			wantAsFound(t, string(text))
			wantAsFound(t, string(text)+"A=Ba\n")
		}
	}
}

func TestCode3(t *testing.T) {
	wantFaults(t, []faultCase{
		{"1 1\nS", 3, 5}, {"1 1\nS=", 3, 6}, {"1 1\nS=a", 3, 7}, {"1 1\nS=aaa", 3, 9}, {"1 1\nS=a\nS", 3, 9}, {"1 1\nS=a\nS=a", 3, 11},
		{"1 1\n\n", 3, 4}, {"1 1\nS=\n\n", 3, 7}, {"1 1\nS=\n ", 3, 7}, {"1 1\n=a\n", 3, 4}, {"1 1\n S=a\n", 3, 4}, {"1 1\nS=\n1 1\n", 3, 7},
		{"1 1\na=a\n", 3, 4}, {"6 4\nd=\n", 3, 4}, {"1 1\nA=a\n", 3, 4}, {"5 1\nE=a\n", 3, 4}, {"6 4\nF=a\n", 3, 4}, {"6 4\nR=a\n", 3, 4},
		{"6 4\ns=a\n", 3, 4}, {"6 4\ne=a\n", 3, 4}, {"6 4\n\x00=a\n", 3, 4}, {"6 4\n\xff=a\n", 3, 4}, {"6 4\n@=a\n", 3, 4},
		{"1 1\nS-a\n", 3, 5}, {"1 1\nS\n", 3, 5}, {"1 1\nS =a\n", 3, 5}, {"1 1\nSa=\n", 3, 5}, {"1 1\nS:=a\n", 3, 5}, {"1 1\nS\x00", 3, 5},
		{"1 1\nS==a\n", 3, 6}, {"1 1\nS= a\n", 3, 6}, {"1 1\nS=A\n", 3, 6}, {"1 1\nS=b\n", 3, 6}, {"6 4\nS=e\n", 3, 6}, {"6 4\nS=F\n", 3, 6},
		{"6 4\nS=`\n", 3, 6}, {"6 3\nS=abcd\n", 3, 9}, {"4 4\nS=aCDE\n", 3, 8}, {"1 1\nS=aaa \n", 3, 9}, {"1 1\nS=a\r\n", 3, 7},
		{"1 1\nS=a;S=\n", 3, 7}, {"1 1\nS=a\x00\n", 3, 7}, {"1 1\nS=\xffa\n", 3, 6}, {"6 4\nS=\xc3\xa9\n", 3, 6}, {"1 1\nS=0\n", 3, 6},
	})
	for _, text := range []string{"2 1\nA=a\n", "6 1\nE=a\n", "1 2\nS=b\n", "6 4\nS=d\nE=E\n"} {
		wantRead(t, text)
	}
}

func TestCode4(t *testing.T) {
	wantFaults(t, []faultCase{
		{"1 1\nS=aaaaa\n", 4, 10}, {"1 1\nS=SSSSS\n", 4, 10}, {"1 1\nS=aaaaaaaaa\n", 4, 10}, {"1 2\nS=\nS=b\nS=abSba\n", 4, 17},
		{"1 1\nS=aaaa", 4, 10}, {"1 1\nS=aaaaa", 4, 10},
		{"1 1\nS=aaaab\n", 4, 10}, {"1 1\nS=aaaaA\n", 4, 10}, {"1 1\nS=aaaa?\n", 4, 10}, {"1 1\nS=aaaa \n", 4, 10}, {"1 1\nS=aaaa=\n", 4, 10},
		{"1 1\nS=aaaa\r\n", 4, 10}, {"1 1\nS=aaaa\x00\n", 4, 10}, {"1 1\nS=aaaa\xff", 4, 10},
		{"1 1\nS=aaa?a\n", 3, 9}, {"1 1\nS=aaabaa\n", 3, 9}, {"1 1\nS=?aaaaa\n", 3, 6},
	})
	wantRead(t, "1 1\nS=aaaa\n")
	wantRead(t, "1 1\nS=SaSa\nS=aSaS\n")
}

func TestFullRightAtEachByte(t *testing.T) {
	for b := 0; b < 256; b++ {
		text := "6 4\nA=\nS=SEad" + string([]byte{byte(b)})
		if b == '\n' {
			wantRead(t, text)
		} else {
			wantFault(t, text, 4, 13)
			wantFault(t, text+"\n", 4, 13)
		}
	}
}

func TestCode5(t *testing.T) {
	wantFaults(t, []faultCase{
		{"1 1\nS=a\nS=a\n", 5, 8}, {"1 1\nS=\nS=\n", 5, 7}, {"1 1\nS=aaaa\nS=aaaa\n", 5, 11},
		{"2 2\nA=b\nS=ab\nS=Ab\nS=ab\n", 5, 18}, {"2 1\nS=A\nA=\nS=\nS=A\n", 5, 14},
		{"1 1\nS=a\nS=a\n?", 5, 8}, {"1 1\nS=a\nS=a\nS=aaaaa\n", 5, 8}, {"1 1\nS=a\nS=a\nS=a\n", 5, 8}, {"1 1\nS=a\nS=a\nS", 5, 8},
		{"1 1\nS=a\nS=a?\n", 3, 11}, {"1 1\nS=a\nS=a", 3, 11}, {"1 1\nS=a\n?\nS=a\n", 3, 8}, {"1 1\nS=aaaa\nS=aaaaa\n", 4, 17},
		{"1 1\nS=aaaa\nS=aaaa", 4, 17},
	})
	for _, text := range []string{"2 1\nS=a\nA=a\n", "1 1\nS=a\nS=aa\n", "1 2\nS=ab\nS=ba\n", "1 1\nS=\nS=S\n"} {
		wantRead(t, text)
	}
}

func TestCode6(t *testing.T) {
	full := fullText()
	end := len(full)
	first := fullLines(1)
	wantFaults(t, []faultCase{
		{"6 4\n" + fullLines(17), 6, end}, {"6 4\n" + fullLines(24), 6, end}, {full + "S=\n", 6, end}, {full + "E=EEEE\n", 6, end},
		{full + "S=\n?", 6, end}, {full + "S=\nS=\n", 6, end}, {full + "S=\nS=aaaaa\n", 6, end},
		{full + first, 5, end}, {full + fullLines(16), 5, end}, {full + first + "?", 5, end},
		{full + "S", 3, end + 1}, {full + "S=", 3, end + 2}, {full + "S=?\n", 3, end + 2}, {full + "\n", 3, end}, {full + "a=\n", 3, end},
		{full + "S=aaaaa\n", 4, end + 6}, {full + "S=aaaa", 4, end + 6},
		{full + "S=\n" + first, 6, end},
	})
	wantRead(t, full)
}

func TestTextsThatEndAtEachPlace(t *testing.T) {
	for _, text := range append(textsRead(), fullText()+fullLines(1), "1 1\nS=aaaaa\n", "2 2\nS=a\nS=b\nS=a\n") {
		for end := range len(text) + 1 {
			wantAsFound(t, text[:end])
		}
	}
}

func TestTextsWithOneByteChanged(t *testing.T) {
	for _, text := range textsRead() {
		for at := range len(text) {
			wantAsFound(t, text[:at]+text[at+1:])
			for b := 0; b < 256; b++ {
				put := string([]byte{byte(b)})
				wantAsFound(t, text[:at]+put+text[at+1:])
				wantAsFound(t, text[:at]+put+text[at:])
			}
		}
	}
}

// Several faults in one text: any two small changes, as far as the bytes matter.
func TestTextsWithTwoBytesChanged(t *testing.T) {
	puts := []string{"", "\n", " ", "=", "0", "1", "6", "S", "A", "B", "a", "b", "c", "?", "aa", "S=\n", "A=ab\n", "\xff"}
	text := "2 2\nS=aAb\nA=ab\nS=\n"
	for first := range len(text) {
		for second := first + 1; second < len(text); second++ {
			for _, a := range puts {
				for _, b := range puts {
					wantAsFound(t, text[:first]+a+text[first+1:second]+b+text[second+1:])
				}
			}
		}
	}
}
