package tests

import (
	"slices"
	"strings"
	"testing"

	"loop.example/g00101/impl"
)

// faults has some of each code, each refused at its own first byte, whatever stands ahead of it, if that ends with no letter, digit or '-'.
func faults() []refused {
	return []refused{
		{"~", impl.LexByte, 0},
		{"!", impl.LexByte, 0},
		{"&", impl.LexByte, 0},
		{">", impl.LexByte, 0},
		{"\r", impl.LexByte, 0},
		{"\x00", impl.LexByte, 0},
		{"\x7f", impl.LexByte, 0},
		{"\x80", impl.LexByte, 0},
		{"\xff", impl.LexByte, 0},
		{"é", impl.LexByte, 0},
		{"07", impl.LexNumber, 0},
		{"1234567890123456", impl.LexNumber, 0},
		{"1a", impl.LexNumber, 0},
		{"abcdefghijklm", impl.LexName, 0},
		{"ifelsewhileor", impl.LexName, 0},
		{"\"a", impl.LexOpen, 0},
		{"\"a\n\"", impl.LexOpen, 0},
		{"\"" + strings.Repeat("a", impl.MaxText+1) + "\"", impl.LexOpen, 0},
	}
}

// aheads may stand ahead of a fault.
func aheads() []string {
	list := []string{"", " ", "\t\n ", "--\n", "-- a remark with a ~ and a \"\n", "a ", "12 ", "\"\"", "local x = 1;\n", "a == b .. c ~= ", "<", "=", "- "}
	return append(list, strings.Repeat("; ", 1000))
}

// Whatever stands ahead, the place is that of the token that is refused, and no tokens are told.
func TestPlacesOfFaults(t *testing.T) {
	for _, fault := range faults() {
		for _, ahead := range aheads() {
			for _, behind := range []string{"", " ", "\n", " a", " ;;", "\n--", " ~", " 07", " abcdefghijklm", "\n\""} {
				// A text that is only open goes on up to a quotation mark.
				if fault.text == "\"a" && !strings.HasPrefix(behind, "\n") {
					behind = "\n" + behind
				}
				checkAnswer(t, ahead+fault.text+behind, nil, fault.code, len(ahead))
			}
		}
	}
}

// Of several the first one from the left counts; one in a remark does not.
func TestFirstFaultCounts(t *testing.T) {
	for _, one := range faults() {
		remark := "--" + strings.ReplaceAll(one.text, "\n", "") + "\n"
		for _, two := range faults() {
			checkAnswer(t, "a; "+one.text+"\n"+two.text, nil, one.code, 3)
			checkAnswer(t, remark+two.text, nil, two.code, len(remark))
		}
	}
}

// The greatest text is read, and one with a byte more is refused at once, whatever it has.
func TestLengthsOfSources(t *testing.T) {
	semicolons := make([]impl.Token, impl.MaxSource)
	for i := range semicolons {
		semicolons[i] = aMark(i, ";")
	}
	names := make([]impl.Token, impl.MaxSource/2)
	for i := range names {
		names[i] = aName(2*i, "a")
	}
	right := []lexed{
		{strings.Repeat(" ", impl.MaxSource), nil},
		{strings.Repeat("\n", impl.MaxSource), nil},
		{"--" + strings.Repeat("~", impl.MaxSource-2), nil},
		{strings.Repeat(";", impl.MaxSource), semicolons},
		{strings.Repeat("a ", impl.MaxSource/2), names},
		{strings.Repeat(" ", impl.MaxSource-1) + "a", []impl.Token{aName(impl.MaxSource-1, "a")}},
		{"a" + strings.Repeat(" ", impl.MaxSource-1), []impl.Token{aName(0, "a")}},
	}
	checkLexed(t, right)
	for _, x := range right {
		checkAllRefused(t, []refused{
			{x.text + " ", impl.LexLong, 0},
			{" " + x.text, impl.LexLong, 0},
			{x.text + x.text, impl.LexLong, 0},
		})
	}
	for _, fault := range faults() {
		room := strings.Repeat(" ", impl.MaxSource-len(fault.text))
		checkAllRefused(t, []refused{
			{room + fault.text, fault.code, len(room)},
			{fault.text + "\n" + room[1:], fault.code, 0},
			{room + " " + fault.text, impl.LexLong, 0},
			{fault.text + "\n" + room, impl.LexLong, 0},
		})
	}
	checkAnswer(t, strings.Repeat("~", 1<<20), nil, impl.LexLong, 0)
}

// No list is kept: what is written into an answer is seen by no other one.
func TestTokensAreNew(t *testing.T) {
	for _, program := range programs() {
		one, _, _ := impl.Lex(program)
		was := slices.Clone(one)
		two, _, _ := impl.Lex(program)
		for i := range one {
			one[i] = impl.Token{Kind: -1, At: -1, Text: "written over", I: -1}
		}
		three, _, _ := impl.Lex(program)
		if !slices.Equal(two, was) || !slices.Equal(three, was) {
			t.Errorf("%q: the tokens of one call are those of another one", program)
		}
	}
}
