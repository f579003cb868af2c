package tests

import (
	"math/rand"
	"slices"
	"strings"
	"testing"

	"loop.example/g00101/impl"
)

// programs are ordinary ones, that have tokens of all kinds, each word and each mark.
func programs() []string {
	return []string{
		"local n = 10;\nwhile n <= 20 and not (n == 15) {\n\tn = n + 1; -- one more\n}\nreturn n;\n",
		"local t = { 1, 2, x = 3, [\"a b\"] = nil };\nif #t ~= 0 or false { print(t[1]); } else { t.x = t.x .. \"-\"; }",
		"--\n-- a remark with \"quotation marks\" and a byte \xff\n--local x = 1;\nlocal f=fn(a,b){return a*b/2%7- -a;};f(0,999999999999999);",
		"if true{print(\"\");}else{while a<b{a=a..b;}} --- the end",
		"",
		" \t\n\n",
		"-- nothing but a remark",
	}
}

// bare is a list of tokens without places.
func bare(list []impl.Token) []impl.Token {
	out := slices.Clone(list)
	for i := range out {
		out[i].At = 0
	}
	return out
}

// gap is what may stand between two tokens.
type gap struct {
	name string
	text string
}

func gaps() []gap {
	return []gap{
		{"a blank", " "},
		{"a tab", "\t"},
		{"a line's end", "\n"},
		{"some of each", "\n\t \n\n   \t"},
		{"a remark", " -- a remark\n"},
		{"a remark at once", "--a remark\n"},
		{"an empty remark", "--\n"},
		{"a remark of tokens", "-- local x = \"a\" .. 12; 07\n"},
		{"a remark with an open text", "--\"\n"},
		{"a remark of odd bytes", "--\x00\r\x7f\x80\xff~!'\n"},
		{"two remarks", "----\n\t--\n "},
	}
}

// written is the tokens one behind the other, as they are read from that text, with a gap between each two that is asked for by the number of the one ahead.
func written(list []impl.Token, between func(i int) string) (string, []impl.Token) {
	var text strings.Builder
	out := slices.Clone(list)
	for i, token := range list {
		if i > 0 {
			g := between(i - 1)
			// A remark right behind a '-' would begin with that one.
			if list[i-1].Text == "-" && list[i-1].Kind == impl.TokMark && strings.HasPrefix(g, "-") {
				g = " " + g
			}
			text.WriteString(g)
		}
		out[i].At = text.Len()
		text.WriteString(spelled(token))
	}
	return text.String(), out
}

// checkRound: with any gap between, a list of tokens is read as itself, each at the place where it was written.
func checkRound(t *testing.T, list []impl.Token) {
	t.Helper()
	for _, g := range gaps() {
		text, want := written(list, func(int) string { return g.text })
		if len(text) > impl.MaxSource {
			checkAnswer(t, text, nil, impl.LexLong, 0)
			continue
		}
		checkAnswer(t, text, want, impl.LexDone, 0)
	}
	text, want := written(list, func(i int) string { return gaps()[i%len(gaps())].text })
	if len(text) <= impl.MaxSource {
		checkAnswer(t, text, want, impl.LexDone, 0)
	}
}

func tokensThere(t *testing.T, text string) []impl.Token {
	t.Helper()
	list, code, place := impl.Lex(text)
	if code != impl.LexDone || place != 0 {
		t.Fatalf("%q is refused: %d at %d", text, code, place)
	}
	return list
}

func TestProgramsAreReadAgain(t *testing.T) {
	spoken := map[string]bool{}
	for _, program := range programs() {
		list := tokensThere(t, program)
		for _, token := range list {
			spoken[token.Text] = true
		}
		checkRound(t, list)
		for _, g := range gaps() {
			text, _ := written(list, func(int) string { return g.text })
			if len(text) > impl.MaxSource {
				continue
			}
			if again := tokensThere(t, text); !slices.Equal(bare(again), bare(list)) {
				t.Errorf("with %s between, %q is read as\n%+v, not as\n%+v", g.name, program, again, list)
			}
		}
	}
	for _, s := range append(allWords(), allMarks()...) {
		if !spoken[s] {
			t.Errorf("no program has %q", s)
		}
	}
}

// oneOfEach has each word and mark, and names, numbers and texts at their edges.
func oneOfEach() []impl.Token {
	var list []impl.Token
	for _, s := range allWords() {
		list = append(list, impl.Token{Kind: impl.TokWord, Text: s})
	}
	for _, s := range allMarks() {
		list = append(list, impl.Token{Kind: impl.TokMark, Text: s})
	}
	for _, s := range []string{"a", "Z", "iff", "i", "Local", "abcdefghijkl", "ZYXWVUTSRQPO"} {
		list = append(list, impl.Token{Kind: impl.TokName, Text: s})
	}
	list = append(list,
		impl.Token{Kind: impl.TokInt, Text: "0"},
		impl.Token{Kind: impl.TokInt, Text: "7", I: 7},
		impl.Token{Kind: impl.TokInt, Text: "10", I: 10},
		impl.Token{Kind: impl.TokInt, Text: "999999999999999", I: 999999999999999},
	)
	for _, s := range []string{"", " ", "a", "if", "12", "--", "==", "a -- b", "~!'", strings.Repeat("~", impl.MaxText)} {
		list = append(list, impl.Token{Kind: impl.TokText, Text: s})
	}
	return list
}

func TestEveryTwoTokens(t *testing.T) {
	for _, one := range oneOfEach() {
		checkRound(t, []impl.Token{one})
		for _, two := range oneOfEach() {
			checkRound(t, []impl.Token{one, two})
		}
	}
	list := oneOfEach()
	checkRound(t, list)
	slices.Reverse(list)
	checkRound(t, list)
}

// What stands ahead of the first token and behind the last one is passed over as well.
func TestGapsAtBothEnds(t *testing.T) {
	for _, token := range oneOfEach() {
		for _, ahead := range gaps() {
			for _, behind := range append(gaps(), gap{"the end", ""}, gap{"a remark without a line's end", " --"}) {
				after := behind.text
				if token.Text == "-" {
					after = " " + after
				}
				want := token
				want.At = len(ahead.text)
				checkAnswer(t, ahead.text+spelled(token)+after, []impl.Token{want}, impl.LexDone, 0)
			}
		}
	}
}

// someToken is one by chance, with what Lex tells of it written out.
func someToken(r *rand.Rand) impl.Token {
	switch r.Intn(5) {
	case 0:
		return impl.Token{Kind: impl.TokWord, Text: allWords()[r.Intn(len(allWords()))]}
	case 1:
		for {
			name := someOf(r, allLetters, 1+r.Intn(impl.MaxName))
			if !slices.Contains(allWords(), name) {
				return impl.Token{Kind: impl.TokName, Text: name}
			}
		}
	case 2:
		digits := someOf(r, "123456789", 1) + someOf(r, allDigits, r.Intn(15))
		return digitPiece(digits, digits).token
	case 3:
		return impl.Token{Kind: impl.TokText, Text: someOf(r, printable(), r.Intn(30))}
	}
	return impl.Token{Kind: impl.TokMark, Text: allMarks()[r.Intn(len(allMarks()))]}
}

func TestListsOfTokensByChance(t *testing.T) {
	r := rand.New(rand.NewSource(888))
	for range 2000 {
		list := make([]impl.Token, r.Intn(30))
		for i := range list {
			list[i] = someToken(r)
		}
		checkRound(t, list)
		text, want := written(list, func(int) string { return gaps()[r.Intn(len(gaps()))].text })
		if len(text) <= impl.MaxSource {
			checkAnswer(t, text, want, impl.LexDone, 0)
		}
	}
}

// What is read from any text, right or not, is read again from its own tokens.
func TestWhatIsReadIsReadAgain(t *testing.T) {
	r := rand.New(rand.NewSource(8888))
	read := 0
	for range 4000 {
		var text strings.Builder
		for range r.Intn(40) {
			text.WriteString(somePiece(r))
		}
		list, code, _ := impl.Lex(text.String())
		if code != impl.LexDone {
			continue
		}
		read++
		again, _ := written(list, func(int) string { return " " })
		if len(again) <= impl.MaxSource && !slices.Equal(bare(tokensThere(t, again)), bare(list)) {
			t.Errorf("%q has other tokens than %q", again, text.String())
		}
	}
	if read < 1000 {
		t.Error("only", read, "texts were read")
	}
}
