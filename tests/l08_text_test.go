package tests

import (
	"strings"
	"testing"

	"loop.example/g00101/impl"
)

func TestQuotedTexts(t *testing.T) {
	checkLexed(t, []lexed{
		{`""`, []impl.Token{aText(0, "")}},
		{` "" `, []impl.Token{aText(1, "")}},
		{`""""`, []impl.Token{aText(0, ""), aText(2, "")}},
		{`"a"`, []impl.Token{aText(0, "a")}},
		{`" "`, []impl.Token{aText(0, " ")}},
		{`"a""b"`, []impl.Token{aText(0, "a"), aText(3, "b")}},
		{`"a"b"c"`, []impl.Token{aText(0, "a"), aName(3, "b"), aText(4, "c")}},
		{`"if"`, []impl.Token{aText(0, "if")}},
		{`"07a"`, []impl.Token{aText(0, "07a")}},
		{`"abcdefghijklmnop"`, []impl.Token{aText(0, "abcdefghijklmnop")}},
		{`"--"x`, []impl.Token{aText(0, "--"), aName(4, "x")}},
		{`"a -- b" -- "c"`, []impl.Token{aText(0, "a -- b")}},
		{`"\"`, []impl.Token{aText(0, `\`)}},
		{`"\n"`, []impl.Token{aText(0, `\n`)}},
		{`"'~!&|$?"`, []impl.Token{aText(0, "'~!&|$?")}},
		{`"a"..".."`, []impl.Token{aText(0, "a"), aMark(3, ".."), aText(5, "..")}},
	})
}

// MaxText bytes between, and one more; where the second quotation mark is missing, too.
func TestLengthsOfTexts(t *testing.T) {
	for n := range impl.MaxText + 1 {
		s := strings.Repeat("x", n)
		checkAnswer(t, `"`+s+`"`, []impl.Token{aText(0, s)}, impl.LexDone, 0)
		checkAnswer(t, `"`+s+`";`, []impl.Token{aText(0, s), aMark(n+2, ";")}, impl.LexDone, 0)
		checkAnswer(t, `"`+s, nil, impl.LexOpen, 0)
		checkAnswer(t, `;"`+s+"\n\"", nil, impl.LexOpen, 1)
	}
	for _, n := range []int{impl.MaxText + 1, impl.MaxText + 2, 1000, impl.MaxSource - 3} {
		s := strings.Repeat("x", n)
		checkAllRefused(t, []refused{
			{`"` + s + `"`, impl.LexOpen, 0},
			{` "` + s + `"`, impl.LexOpen, 1},
			{`"` + s, impl.LexOpen, 0},
			{`"` + s + "\n\"", impl.LexOpen, 0},
		})
	}
}

// Each byte between two quotation marks: at the beginning, within and at the end of what is between.
func TestEveryByteBetweenQuotationMarks(t *testing.T) {
	for b := range 256 {
		s := string([]byte{byte(b)})
		if s == `"` {
			continue
		}
		for _, between := range []string{s, s + "ab", "a" + s + "b", "ab" + s, strings.Repeat("a", impl.MaxText-1) + s} {
			if b >= 32 && b <= 126 {
				checkAnswer(t, `= "`+between+`"`, []impl.Token{aMark(0, "="), aText(2, between)}, impl.LexDone, 0)
			} else {
				checkAnswer(t, `= "`+between+`"`, nil, impl.LexOpen, 2)
			}
		}
	}
}

// The place that is told is that of the first quotation mark, whatever is wrong behind it.
func TestOpenTexts(t *testing.T) {
	checkAllRefused(t, []refused{
		{`"`, impl.LexOpen, 0},
		{`a "`, impl.LexOpen, 2},
		{`"""`, impl.LexOpen, 2},
		{`"a" "b`, impl.LexOpen, 4},
		{"\"a\nb\"", impl.LexOpen, 0},
		{"\"\n", impl.LexOpen, 0},
		{"\"\n\"", impl.LexOpen, 0},
		{"\"a\tb\"", impl.LexOpen, 0},
		{"\"a\x1f\"", impl.LexOpen, 0},
		{"\"a\x7f\"", impl.LexOpen, 0},
		{"\"é\"", impl.LexOpen, 0},
		{"\"a -- b\n\"", impl.LexOpen, 0},
		{"-- a\n\"b", impl.LexOpen, 5},
		{"\"!", impl.LexOpen, 0},
		{"\"a\x00!\"", impl.LexOpen, 0},
		{"1\"", impl.LexOpen, 1},
		{"a\"", impl.LexOpen, 1},
	})
}

func TestRemarks(t *testing.T) {
	checkLexed(t, []lexed{
		{"--", nil},
		{"---", nil},
		{"----", nil},
		{"--\n", nil},
		{"--\n--", nil},
		{"-- a", nil},
		{"--a\n", nil},
		{"--\na", []impl.Token{aName(3, "a")}},
		{"a--b", []impl.Token{aName(0, "a")}},
		{"a--b\nc", []impl.Token{aName(0, "a"), aName(5, "c")}},
		{"a---b\nc", []impl.Token{aName(0, "a"), aName(6, "c")}},
		{"a --[[ b\nc ]]", []impl.Token{aName(0, "a"), aName(9, "c"), aMark(11, "]"), aMark(12, "]")}},
		{"--\"\na", []impl.Token{aName(4, "a")}},
		{"--\"a\n\"b\"", []impl.Token{aText(5, "b")}},
		{"--\r\n;", []impl.Token{aMark(4, ";")}},
		{"--a\rb\n;", []impl.Token{aMark(6, ";")}},
		{"-- ~ ! 07 1a abcdefghijklm \"\n;", []impl.Token{aMark(29, ";")}},
		{"x--\n--\n--y\nz", []impl.Token{aName(0, "x"), aName(11, "z")}},
		{"--" + strings.Repeat("\xff", impl.MaxSource-2), nil},
		{strings.Repeat("-", impl.MaxSource), nil},
		{"1--2\n3", []impl.Token{aNumber(0, "1", 1), aNumber(5, "3", 3)}},
	})
	for b := range 256 {
		if b == '\n' {
			continue
		}
		s := string([]byte{byte(b)})
		checkLexed(t, []lexed{
			{"--" + s, nil},
			{"--" + s + "a" + s + "\n;", []impl.Token{aMark(6, ";")}},
		})
	}
}
