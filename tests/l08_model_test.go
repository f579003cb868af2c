package tests

import (
	"math/rand"
	"slices"
	"strings"
	"testing"
	"unsafe"

	"loop.example/g00101/impl"
)

// The model of tokens: by the document's words, a piece at a time, from what the text has at its beginning.

const (
	allLetters = "abcdefghijklmnopqrstuvwxyzABCDEFGHIJKLMNOPQRSTUVWXYZ"
	allDigits  = "0123456789"
)

func allWords() []string {
	return []string{"local", "fn", "if", "else", "while", "return", "true", "false", "nil", "and", "or", "not"}
}

// allMarks has them in the document's order.
func allMarks() []string {
	return []string{"{", "}", "(", ")", "[", "]", ";", ",", "..", ".", "==", "=", "~=", "<=", "<", "+", "-", "*", "/", "%", "#"}
}

// startOf is the longest beginning of a text that has only bytes of a set.
func startOf(text string, set string) string {
	return text[:len(text)-len(strings.TrimLeft(text, set))]
}

// longestMark is the longest one that a text begins with.
func longestMark(text string) string {
	best := ""
	for _, m := range allMarks() {
		if strings.HasPrefix(text, m) && len(m) > len(best) {
			best = m
		}
	}
	return best
}

// piece is what a text begins with: how many bytes it has, its token (the Kind is 0 of what is passed over), or a code.
type piece struct {
	length int
	token  impl.Token
	code   int
}

func pieceOf(text string) piece {
	switch first := text[:1]; {
	case strings.Contains("\t\n ", first):
		return piece{length: 1}
	case strings.HasPrefix(text, "--"):
		line, _, _ := strings.Cut(text, "\n")
		return piece{length: len(line)}
	case strings.Contains(allLetters, first):
		return letterPiece(startOf(text, allLetters))
	case strings.Contains(allDigits, first):
		return digitPiece(startOf(text, allDigits), text)
	case first == `"`:
		return textPiece(text)
	}
	m := longestMark(text)
	if m == "" {
		return piece{code: impl.LexByte}
	}
	return piece{length: len(m), token: impl.Token{Kind: impl.TokMark, Text: m}}
}

func letterPiece(run string) piece {
	if slices.Contains(allWords(), run) {
		return piece{length: len(run), token: impl.Token{Kind: impl.TokWord, Text: run}}
	}
	if len(run) > 12 {
		return piece{code: impl.LexName}
	}
	return piece{length: len(run), token: impl.Token{Kind: impl.TokName, Text: run}}
}

func digitPiece(run string, text string) piece {
	letter := startOf(text[len(run):], allLetters) != ""
	if len(run) > 15 || run != "0" && strings.HasPrefix(run, "0") || letter {
		return piece{code: impl.LexNumber}
	}
	value, power := 0, 1
	for i := len(run) - 1; i >= 0; i-- {
		value += power * strings.IndexByte(allDigits, run[i])
		power *= 10
	}
	return piece{length: len(run), token: impl.Token{Kind: impl.TokInt, Text: run, I: value}}
}

func textPiece(text string) piece {
	between, _, closed := strings.Cut(text[1:], `"`)
	for _, b := range []byte(between) {
		if b < 32 || b > 126 {
			closed = false
		}
	}
	if !closed || len(between) > 160 {
		return piece{code: impl.LexOpen}
	}
	return piece{length: len(between) + 2, token: impl.Token{Kind: impl.TokText, Text: between}}
}

func modelLex(text string) ([]impl.Token, int, int) {
	if len(text) > 3000 {
		return nil, impl.LexLong, 0
	}
	var list []impl.Token
	for at := 0; at < len(text); {
		p := pieceOf(text[at:])
		if p.code != impl.LexDone {
			return nil, p.code, at
		}
		if p.token.Kind != 0 {
			p.token.At = at
			list = append(list, p.token)
		}
		at += p.length
	}
	return list, impl.LexDone, 0
}

// spelled is a token as a program has it.
func spelled(token impl.Token) string {
	if token.Kind == impl.TokText {
		return `"` + token.Text + `"`
	}
	return token.Text
}

// checkAnswer: Lex answers just these at a text.
func checkAnswer(t *testing.T, text string, want []impl.Token, code int, place int) {
	t.Helper()
	list, gotCode, gotPlace := impl.Lex(text)
	if gotCode != code || gotPlace != place {
		t.Errorf("%q: the code is %d at %d, want %d at %d", text, gotCode, gotPlace, code, place)
	}
	if !slices.Equal(list, want) {
		t.Errorf("%q: the tokens are\n%+v, want\n%+v", text, list, want)
	}
	for _, token := range list {
		if !strings.HasPrefix(text[token.At:], spelled(token)) {
			t.Errorf("%q: %+v does not stand at its place", text, token)
		}
		if sharesBytes(token.Text, text) {
			t.Errorf("%q: %+v shares memory with it", text, token)
		}
	}
}

// sharesBytes: one lies in the memory of the other.
func sharesBytes(one string, all string) bool {
	if one == "" || all == "" {
		return false
	}
	at := uintptr(unsafe.Pointer(unsafe.StringData(one)))
	begin := uintptr(unsafe.Pointer(unsafe.StringData(all)))
	return at >= begin && at < begin+uintptr(len(all))
}

// checkLex holds Lex against the model, and tells the code.
func checkLex(t *testing.T, text string) int {
	t.Helper()
	list, code, place := modelLex(text)
	checkAnswer(t, text, list, code, place)
	return code
}

// Each text of two bytes at most.
func TestEveryTwoBytes(t *testing.T) {
	checkLex(t, "")
	for one := range 256 {
		checkLex(t, string([]byte{byte(one)}))
		for two := range 256 {
			checkLex(t, string([]byte{byte(one), byte(two)}))
		}
	}
}

// everyText calls do with each text of so many of these bytes.
func everyText(set string, length int, do func(text string)) {
	if length == 0 {
		do("")
		return
	}
	everyText(set, length-1, func(text string) {
		for i := range len(set) {
			do(text + set[i:i+1])
		}
	})
}

// A few bytes that make marks, remarks, texts and numbers with one another, in each order.
func TestEveryFewBytes(t *testing.T) {
	codes := map[int]int{}
	for length := range 5 {
		everyText("-\n\"=.<~ a0!", length, func(text string) { codes[checkLex(t, text)]++ })
	}
	everyText("-=.<~\n", 6, func(text string) { codes[checkLex(t, text)]++ })
	everyText("0f1i ", 6, func(text string) { codes[checkLex(t, text)]++ })
	for _, code := range []int{impl.LexDone, impl.LexByte, impl.LexNumber, impl.LexOpen} {
		if codes[code] < 100 {
			t.Error("the code", code, "was answered", codes[code], "times")
		}
	}
}

// someOf are so many bytes of a set by chance.
func someOf(r *rand.Rand, set string, n int) string {
	b := make([]byte, n)
	for i := range b {
		b[i] = set[r.Intn(len(set))]
	}
	return string(b)
}

// printable has the bytes 32 .. 126 but the quotation mark.
func printable() string {
	var b []byte
	for c := byte(32); c < 127; c++ {
		if c != '"' {
			b = append(b, c)
		}
	}
	return string(b)
}

// somePiece is a piece of a program by chance: most often one that Lex takes.
func somePiece(r *rand.Rand) string {
	switch r.Intn(12) {
	case 0, 1:
		return allWords()[r.Intn(len(allWords()))]
	case 2:
		return someOf(r, allLetters, 1+r.Intn(12))
	case 3:
		return someOf(r, "123456789", 1+r.Intn(15))
	case 4:
		return `"` + someOf(r, printable(), r.Intn(20)) + `"`
	case 5, 6, 7:
		return allMarks()[r.Intn(len(allMarks()))]
	case 8:
		return "--" + someOf(r, printable()+"\"\r\x00\xff", r.Intn(9)) + "\n"
	}
	return someOf(r, "\t\n ", 1+r.Intn(3))
}

// oddPiece is one that stands at an edge, on either side.
func oddPiece(r *rand.Rand) string {
	switch r.Intn(6) {
	case 0:
		return someOf(r, allLetters, 11+r.Intn(3))
	case 1:
		return someOf(r, allDigits, 1+r.Intn(17))
	case 2:
		return `"` + someOf(r, printable(), 159+r.Intn(3)) + `"`
	case 3:
		return `"` + someText(r) + `"`
	case 4:
		return someOf(r, "\"-~\n", 1)
	}
	return string([]byte{byte(r.Intn(256))})
}

// Programs by chance: pieces with or without blanks between, and now and then one at an edge.
func TestTokensByChance(t *testing.T) {
	r := rand.New(rand.NewSource(8))
	codes := map[int]int{}
	for range 30000 {
		var text strings.Builder
		for range r.Intn(12) {
			text.WriteString(somePiece(r))
			if r.Intn(2) == 0 {
				text.WriteString(" ")
			}
			if r.Intn(20) == 0 {
				text.WriteString(oddPiece(r))
			}
		}
		codes[checkLex(t, text.String())]++
	}
	for code := impl.LexDone; code <= impl.LexOpen; code++ {
		if code != impl.LexLong && codes[code] < 100 {
			t.Error("the code", code, "was answered", codes[code], "times")
		}
	}
}

// A right program in which one byte is another one, is gone, or is there twice.
func TestProgramsThatWereChanged(t *testing.T) {
	r := rand.New(rand.NewSource(88))
	for _, program := range programs() {
		for at := range len(program) {
			for range 4 {
				b := string([]byte{byte(r.Intn(256))})
				checkLex(t, program[:at]+b+program[at+1:])
				checkLex(t, program[:at]+b+program[at:])
			}
			checkLex(t, program[:at]+program[at+1:])
			checkLex(t, program[:at+1]+program[at:])
			checkLex(t, program[:at])
			checkLex(t, program[at:])
		}
	}
}
