package tests

import (
	"slices"
	"strings"
	"testing"

	"loop.example/g00101/impl"
)

func TestEveryMark(t *testing.T) {
	if n := len(allMarks()); n != 21 {
		t.Fatal("there are", n, "marks")
	}
	for _, m := range allMarks() {
		n := len(m)
		checkLexed(t, []lexed{
			{m, []impl.Token{aMark(0, m)}},
			{"\n" + m + "\n", []impl.Token{aMark(1, m)}},
			{m + " " + m, []impl.Token{aMark(0, m), aMark(n+1, m)}},
			{"a" + m + "b", []impl.Token{aName(0, "a"), aMark(1, m), aName(1+n, "b")}},
			{"if" + m + "1", []impl.Token{aWord(0, "if"), aMark(2, m), aNumber(2+n, "1", 1)}},
			{"1" + m + "if", []impl.Token{aNumber(0, "1", 1), aMark(1, m), aWord(1+n, "if")}},
			{`""` + m + `"a"`, []impl.Token{aText(0, ""), aMark(2, m), aText(2+n, "a")}},
		})
	}
}

// Of two that both fit the longer one, from the left.
func TestMarksThatBothFit(t *testing.T) {
	checkLexed(t, []lexed{
		{".", []impl.Token{aMark(0, ".")}},
		{"..", []impl.Token{aMark(0, "..")}},
		{"...", []impl.Token{aMark(0, ".."), aMark(2, ".")}},
		{"....", []impl.Token{aMark(0, ".."), aMark(2, "..")}},
		{". .", []impl.Token{aMark(0, "."), aMark(2, ".")}},
		{".. .", []impl.Token{aMark(0, ".."), aMark(3, ".")}},
		{". ..", []impl.Token{aMark(0, "."), aMark(2, "..")}},
		{"=", []impl.Token{aMark(0, "=")}},
		{"==", []impl.Token{aMark(0, "==")}},
		{"===", []impl.Token{aMark(0, "=="), aMark(2, "=")}},
		{"====", []impl.Token{aMark(0, "=="), aMark(2, "==")}},
		{"= =", []impl.Token{aMark(0, "="), aMark(2, "=")}},
		{"= ==", []impl.Token{aMark(0, "="), aMark(2, "==")}},
		{"<", []impl.Token{aMark(0, "<")}},
		{"<=", []impl.Token{aMark(0, "<=")}},
		{"<<", []impl.Token{aMark(0, "<"), aMark(1, "<")}},
		{"<<=", []impl.Token{aMark(0, "<"), aMark(1, "<=")}},
		{"<==", []impl.Token{aMark(0, "<="), aMark(2, "=")}},
		{"<===", []impl.Token{aMark(0, "<="), aMark(2, "==")}},
		{"< =", []impl.Token{aMark(0, "<"), aMark(2, "=")}},
		{"=<", []impl.Token{aMark(0, "="), aMark(1, "<")}},
		{"~=", []impl.Token{aMark(0, "~=")}},
		{"~==", []impl.Token{aMark(0, "~="), aMark(2, "=")}},
		{"~===", []impl.Token{aMark(0, "~="), aMark(2, "==")}},
		{"~=~=", []impl.Token{aMark(0, "~="), aMark(2, "~=")}},
		{"<=~=", []impl.Token{aMark(0, "<="), aMark(2, "~=")}},
		{"-", []impl.Token{aMark(0, "-")}},
		{"- -", []impl.Token{aMark(0, "-"), aMark(2, "-")}},
		{"-\n-", []impl.Token{aMark(0, "-"), aMark(2, "-")}},
		{"- --", []impl.Token{aMark(0, "-")}},
		{"--\n-", []impl.Token{aMark(3, "-")}},
		{"a-b", []impl.Token{aName(0, "a"), aMark(1, "-"), aName(2, "b")}},
		{"=-1", []impl.Token{aMark(0, "="), aMark(1, "-"), aNumber(2, "1", 1)}},
		{"-=", []impl.Token{aMark(0, "-"), aMark(1, "=")}},
	})
}

// joins are the marks that are read as others when they stand right behind one another; all others are read as the two that they are.
func joins() map[[2]string][]string {
	return map[[2]string][]string{
		{".", "."}:  {".."},
		{".", ".."}: {"..", "."},
		{"=", "="}:  {"=="},
		{"=", "=="}: {"==", "="},
		{"<", "="}:  {"<="},
		{"<", "=="}: {"<=", "="},
		{"-", "-"}:  {},
	}
}

func TestEveryTwoMarks(t *testing.T) {
	for _, one := range allMarks() {
		for _, two := range allMarks() {
			want, joined := joins()[[2]string{one, two}]
			if !joined {
				want = []string{one, two}
			}
			list, code, place := impl.Lex(one + two)
			var got []string
			for _, token := range list {
				got = append(got, token.Text)
				if token.Kind != impl.TokMark {
					t.Errorf("%q has the token %+v", one+two, token)
				}
			}
			if code != impl.LexDone || place != 0 || !slices.Equal(got, want) {
				t.Errorf("%q is read as %q, %d at %d, want %q", one+two, got, code, place, want)
			}
		}
	}
}

// startBytes are those that begin a token, or are passed over.
func startBytes() string {
	return allLetters + allDigits + "\t\n \"{}()[];,.=<+-*/%#"
}

func TestBytesThatBeginNoToken(t *testing.T) {
	odd := 0
	for b := range 256 {
		s := string([]byte{byte(b)})
		if strings.Contains(startBytes(), s) {
			continue
		}
		odd++
		checkAllRefused(t, []refused{
			{s, impl.LexByte, 0},
			{s + s, impl.LexByte, 0},
			{"a" + s, impl.LexByte, 1},
			{"12" + s + " =", impl.LexByte, 2},
			{"if " + s + " a", impl.LexByte, 3},
			{"--\n" + s, impl.LexByte, 3},
			{`"a"` + s, impl.LexByte, 3},
			{"= \n\t" + s + " abcdefghijklm", impl.LexByte, 4},
			{strings.Repeat(" ", impl.MaxSource-1) + s, impl.LexByte, impl.MaxSource - 1},
		})
	}
	if odd != 256-83 {
		t.Error(odd, "bytes begin no token")
	}
}
