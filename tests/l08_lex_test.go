package tests

import (
	"fmt"
	"slices"
	"strings"
	"testing"

	"loop.example/g00101/impl"
)

func TestLexConstants(t *testing.T) {
	got := []int{impl.MaxSource, impl.MaxName, impl.TokName, impl.TokWord, impl.TokInt, impl.TokText, impl.TokMark}
	if want := []int{3000, 12, 1, 2, 3, 4, 5}; !slices.Equal(got, want) {
		t.Error("limits and kinds are", got, "want", want)
	}
	got = []int{impl.LexDone, impl.LexLong, impl.LexByte, impl.LexNumber, impl.LexName, impl.LexOpen}
	if want := []int{0, 1, 2, 3, 4, 5}; !slices.Equal(got, want) {
		t.Error("codes are", got, "want", want)
	}
}

// The makers of tokens, by what they are and where they stand.

func aWord(at int, s string) impl.Token { return impl.Token{Kind: impl.TokWord, At: at, Text: s} }
func aName(at int, s string) impl.Token { return impl.Token{Kind: impl.TokName, At: at, Text: s} }
func aMark(at int, s string) impl.Token { return impl.Token{Kind: impl.TokMark, At: at, Text: s} }
func aText(at int, s string) impl.Token { return impl.Token{Kind: impl.TokText, At: at, Text: s} }

func aNumber(at int, s string, n int) impl.Token {
	return impl.Token{Kind: impl.TokInt, At: at, Text: s, I: n}
}

// lexed is a text and its tokens, written out.
type lexed struct {
	text string
	want []impl.Token
}

func checkLexed(t *testing.T, list []lexed) {
	t.Helper()
	for _, x := range list {
		checkAnswer(t, x.text, x.want, impl.LexDone, 0)
	}
}

// refused is a text, and the code and the place that are told of it.
type refused struct {
	text  string
	code  int
	place int
}

func checkAllRefused(t *testing.T, list []refused) {
	t.Helper()
	for _, x := range list {
		checkAnswer(t, x.text, nil, x.code, x.place)
	}
}

func TestProgramByHand(t *testing.T) {
	checkLexed(t, []lexed{
		{"", nil},
		{"  \t \n\n\t", nil},
		{"local f = fn (a) {\n\treturn a.b[10] .. \"x y\"; -- joined\n};", []impl.Token{
			aWord(0, "local"), aName(6, "f"), aMark(8, "="), aWord(10, "fn"), aMark(13, "("), aName(14, "a"), aMark(15, ")"), aMark(17, "{"),
			aWord(20, "return"), aName(27, "a"), aMark(28, "."), aName(29, "b"), aMark(30, "["), aNumber(31, "10", 10), aMark(33, "]"),
			aMark(35, ".."), aText(38, "x y"), aMark(43, ";"), aMark(55, "}"), aMark(56, ";"),
		}},
		{"if not a<=b{}else{c=-1}", []impl.Token{
			aWord(0, "if"), aWord(3, "not"), aName(7, "a"), aMark(8, "<="), aName(10, "b"), aMark(11, "{"), aMark(12, "}"),
			aWord(13, "else"), aMark(17, "{"), aName(18, "c"), aMark(19, "="), aMark(20, "-"), aNumber(21, "1", 1), aMark(22, "}"),
		}},
	})
}

func TestIsWord(t *testing.T) {
	if n := len(allWords()); n != 12 {
		t.Fatal("there are", n, "words")
	}
	for _, s := range allWords() {
		if !impl.IsWord(s) {
			t.Errorf("%q is no word", s)
		}
		near := []string{s + s, s + " ", " " + s, s + "\n", s + "\x00", s + "1", `"` + s + `"`, strings.ToUpper(s), strings.ToUpper(s[:1]) + s[1:]}
		for i := range len(s) {
			near = append(near, s[:i], s[i+1:], s[:i]+s[i:i+1]+s[i:])
		}
		for _, x := range near {
			if impl.IsWord(x) != slices.Contains(allWords(), x) {
				t.Errorf("%q is a word: %v", x, impl.IsWord(x))
			}
		}
	}
	for _, s := range append(allMarks(), "", "print", "end", "then", "do", "for", "function", "elseif", "break", "a", "0", "\xff") {
		if impl.IsWord(s) {
			t.Errorf("%q is a word", s)
		}
	}
}

// A run of letters is taken whole: it is a word only if all of it is one.
func TestWordsAndNames(t *testing.T) {
	for _, s := range allWords() {
		list := []lexed{{s, []impl.Token{aWord(0, s)}}}
		for _, x := range []string{s + "s", s + "Z", "x" + s, strings.ToUpper(s), strings.ToUpper(s[:1]) + s[1:], s[:len(s)-1]} {
			list = append(list, lexed{x, []impl.Token{aName(0, x)}})
		}
		at := len(s)
		list = append(list,
			lexed{s + "0", []impl.Token{aWord(0, s), aNumber(at, "0", 0)}},
			lexed{s + "(" + s, []impl.Token{aWord(0, s), aMark(at, "("), aWord(at+1, s)}},
			lexed{s + `"` + s + `"` + s, []impl.Token{aWord(0, s), aText(at, s), aWord(2*at+2, s)}},
			lexed{s + "--" + s, []impl.Token{aWord(0, s)}},
			lexed{s + "\t" + s, []impl.Token{aWord(0, s), aWord(at+1, s)}},
		)
		checkLexed(t, list)
	}
	checkLexed(t, []lexed{
		{"elseif", []impl.Token{aName(0, "elseif")}},
		{"else if", []impl.Token{aWord(0, "else"), aWord(5, "if")}},
		{"andor", []impl.Token{aName(0, "andor")}},
		{"print", []impl.Token{aName(0, "print")}},
		{"a1", []impl.Token{aName(0, "a"), aNumber(1, "1", 1)}},
		{"nil1 nill", []impl.Token{aWord(0, "nil"), aNumber(3, "1", 1), aName(5, "nill")}},
	})
}

func TestLengthsOfNames(t *testing.T) {
	for _, letter := range []string{"a", "z", "A", "Z", "m"} {
		for n := 1; n <= impl.MaxName; n++ {
			s := strings.Repeat(letter, n)
			checkAnswer(t, s, []impl.Token{aName(0, s)}, impl.LexDone, 0)
			checkAnswer(t, " "+s+";", []impl.Token{aName(1, s), aMark(n+1, ";")}, impl.LexDone, 0)
		}
		for _, n := range []int{impl.MaxName + 1, impl.MaxName + 2, 100, impl.MaxSource} {
			checkAnswer(t, strings.Repeat(letter, n), nil, impl.LexName, 0)
		}
	}
	checkAllRefused(t, []refused{
		{"a bcdefghijklmn", impl.LexName, 2},
		{"returnreturnreturn", impl.LexName, 0},
		{"whilewhilewhi", impl.LexName, 0},
		{"x = abcdefghijklM;", impl.LexName, 4},
		{"12(abcdefghijklm1", impl.LexName, 3},
		{"abcdefghijklm!", impl.LexName, 0},
	})
}

// Every letter, and no other byte, goes on with a name.
func TestEveryByteBehindALetter(t *testing.T) {
	for b := range 256 {
		s := "a" + string([]byte{byte(b)}) + "="
		list, _, _ := impl.Lex(s)
		goesOn := len(list) > 0 && list[0].Text == s[:2]
		if goesOn != strings.ContainsRune(allLetters, rune(b)) {
			t.Errorf("the byte %d goes on with a name: %v", b, goesOn)
		}
	}
}

func TestNumbers(t *testing.T) {
	checkLexed(t, []lexed{
		{"0", []impl.Token{aNumber(0, "0", 0)}},
		{"0 0", []impl.Token{aNumber(0, "0", 0), aNumber(2, "0", 0)}},
		{"9", []impl.Token{aNumber(0, "9", 9)}},
		{"10", []impl.Token{aNumber(0, "10", 10)}},
		{"1234567890", []impl.Token{aNumber(0, "1234567890", 1234567890)}},
		{"123456789012345", []impl.Token{aNumber(0, "123456789012345", 123456789012345)}},
		{"999999999999999", []impl.Token{aNumber(0, "999999999999999", 999999999999999)}},
		{"100000000000000", []impl.Token{aNumber(0, "100000000000000", 100000000000000)}},
		{"-7", []impl.Token{aMark(0, "-"), aNumber(1, "7", 7)}},
		{"1.2", []impl.Token{aNumber(0, "1", 1), aMark(1, "."), aNumber(2, "2", 2)}},
		{"1..2", []impl.Token{aNumber(0, "1", 1), aMark(1, ".."), aNumber(3, "2", 2)}},
		{"1...2", []impl.Token{aNumber(0, "1", 1), aMark(1, ".."), aMark(3, "."), aNumber(4, "2", 2)}},
		{".5", []impl.Token{aMark(0, "."), aNumber(1, "5", 5)}},
		{"1\"a\"", []impl.Token{aNumber(0, "1", 1), aText(1, "a")}},
		{"\"a\"1", []impl.Token{aText(0, "a"), aNumber(3, "1", 1)}},
		{"1 a", []impl.Token{aNumber(0, "1", 1), aName(2, "a")}},
		{"1\na", []impl.Token{aNumber(0, "1", 1), aName(2, "a")}},
		{"1--a", []impl.Token{aNumber(0, "1", 1)}},
		{"0=0", []impl.Token{aNumber(0, "0", 0), aMark(1, "="), aNumber(2, "0", 0)}},
	})
	checkAllRefused(t, []refused{
		{"00", impl.LexNumber, 0},
		{"01", impl.LexNumber, 0},
		{"000000000000000", impl.LexNumber, 0},
		{"0000000000000000", impl.LexNumber, 0},
		{" 012", impl.LexNumber, 1},
		{"1 00", impl.LexNumber, 2},
		{"1000000000000000", impl.LexNumber, 0},
		{"9223372036854775807", impl.LexNumber, 0},
		{"18446744073709551616", impl.LexNumber, 0},
		{strings.Repeat("1", impl.MaxSource), impl.LexNumber, 0},
		{"0a", impl.LexNumber, 0},
		{"1a", impl.LexNumber, 0},
		{"12Z", impl.LexNumber, 0},
		{"1if", impl.LexNumber, 0},
		{"0x10", impl.LexNumber, 0},
		{"999999999999999a", impl.LexNumber, 0},
		{"a1b", impl.LexNumber, 1},
		{"x = 1e5", impl.LexNumber, 4},
		{"1abcdefghijklm", impl.LexNumber, 0},
		{"1.2a", impl.LexNumber, 2},
		{"1_", impl.LexByte, 1},
		{"1\x80", impl.LexByte, 1},
		{"1é", impl.LexByte, 1},
		{"٣", impl.LexByte, 0},
	})
}

// Each count of digits, and each byte right behind a number.
func TestDigitsAndWhatIsBehind(t *testing.T) {
	n := 0
	for i := 1; i <= 15; i++ {
		n = 10*n + i%10
		s := fmt.Sprint(n)
		if len(s) != i {
			t.Fatal(s, "has not", i, "digits")
		}
		checkAnswer(t, " "+s, []impl.Token{aNumber(1, s, n)}, impl.LexDone, 0)
		for _, letter := range []string{"a", "z", "A", "Z"} {
			checkAnswer(t, s+letter, nil, impl.LexNumber, 0)
		}
		checkAnswer(t, "0"+s, nil, impl.LexNumber, 0)
	}
	for b := range 256 {
		behind := string([]byte{byte(b)})
		_, code, place := impl.Lex("7" + behind + "=")
		isLetter := strings.ContainsRune(allLetters, rune(b))
		if isLetter != (code == impl.LexNumber) || isLetter && place != 0 {
			t.Errorf("a number with the byte %d behind it: %d at %d", b, code, place)
		}
	}
}
