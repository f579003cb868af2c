package tests

import (
	"math/rand"
	"strings"
	"testing"

	"loop.example/g00101/impl"
)

// shell is one thing that opens others: what stands ahead of the inner expression and behind it, and how many it opens.
type shell struct {
	ahead, behind string
	opens         int
}

// expressionShells hold an expression, and stand where one may stand.
func expressionShells() []shell {
	return []shell{
		{"(", ")", 1},
		{"t[", "]", 1},
		{"f(", ")", 1},
		{"f(1, ", ")", 1},
		{"{", "}", 1},
		{"{1, ", "}", 1},
		{"{a = ", "}", 1},
		{"{[1] = ", "}", 1},
		{"{[", "] = 1}", 1},
		{"- ", "", 1},
		{"not ", "", 1},
		{"#", "", 1},
		{"1 + ", "", 0},
		{"fn (a) {return ", ";}", 2},
		{"fn () {x = ", ";}", 2},
		{"fn () {f();t[", "] = 1;}", 3},
		{"fn () {if ", " {}}", 2},
		{"fn () {(f)(", ");}", 3},
	}
}

// statementShells hold statements, and stand where these may stand.
func statementShells() []shell {
	return []shell{
		{"if x {", "}", 1},
		{"if x {} else {", "}", 1},
		{"while x {", "}", 1},
		{"f(fn () {", "});", 3},
		{"x = fn () {", "};", 2},
		{"t[fn () {", "}] = 1;", 3},
		{"return {fn () {", "}};", 3},
		{"while fn () {", "} {}", 2},
	}
}

// A whole expression of a statement, so many shells of one kind in it, and the innermost one: at just MaxDepth, and one more.
func TestExpressionsAtTheDepth(t *testing.T) {
	for _, s := range expressionShells() {
		if s.opens == 0 {
			continue
		}
		n := (impl.MaxDepth - 1) / s.opens
		rest := impl.MaxDepth - 1 - n*s.opens
		ahead := "x = " + strings.Repeat("(", rest) + strings.Repeat(s.ahead, n)
		behind := strings.Repeat(s.behind, n) + strings.Repeat(")", rest) + ";"
		if code := checkParse(t, ahead+"1"+behind); code != impl.ParDone {
			t.Errorf("%q: refused with %d at the depth %d", s.ahead, code, impl.MaxDepth)
		}
		for _, inner := range []string{"(1)", "t[1]", "f(1)", "{1}", "{[1] = 2}", "f(f(1))"} {
			at := len(ahead) + strings.Index(inner, "1")
			if strings.HasPrefix(inner, "f(f") {
				at = len(ahead) + 2
			}
			checkFault(t, ahead+inner+behind, impl.ParDeep, at)
		}
		for _, inner := range []string{"-1", "not 1", "#1"} {
			checkFault(t, ahead+inner+behind, impl.ParDeep, len(ahead))
		}
		checkFault(t, ahead+"{a = 1}"+behind, impl.ParDeep, len(ahead)+5)
		checkFault(t, ahead+"fn () {}"+behind, impl.ParDeep, len(ahead)+6)
		for _, inner := range []string{"f()", "{}", "t.a", "1 + 2 * x", "nil", "f().a()"} {
			if code := checkParse(t, ahead+inner+behind); code != impl.ParDone {
				t.Errorf("%q in %q: refused with %d at the depth %d", inner, s.ahead, code, impl.MaxDepth)
			}
		}
	}
}

// The same of turns alone, written out.
func TestTurnsAtTheDepth(t *testing.T) {
	for _, turn := range []string{"-", "not", "#"} {
		most := "x = " + strings.Repeat(turn+" ", impl.MaxDepth-1)
		e := tInt(1)
		for range impl.MaxDepth - 1 {
			e = tTurn(map[string]int{"-": impl.TurnNeg, "not": impl.TurnNot, "#": impl.TurnLen}[turn], e)
		}
		checkTwig(t, most+"1;", tSet("x", e))
		checkFault(t, most+turn+" 1;", impl.ParDeep, len(most))
		checkFault(t, most+turn, impl.ParDeep, len(most))
		checkFault(t, most+"(1);", impl.ParDeep, len(most)+1)
		checkFault(t, most, impl.ParWant, len(most))
		checkFault(t, most+";", impl.ParWant, len(most))
		// A turn is over with its operand: another one may follow, and what stands behind an operand is in it.
		checkParse(t, most+"1 + "+turn+" 1;")
		if _, code, _ := impl.Parse(most + "1 + " + turn + " 1;"); code != impl.ParDone {
			t.Errorf("%q behind an operand: %d", turn, code)
		}
		checkFault(t, most+"f(1);", impl.ParDeep, len(most)+2)
		checkFault(t, most+"t[1];", impl.ParDeep, len(most)+2)
	}
}

func TestBlocksAtTheDepth(t *testing.T) {
	for _, head := range []string{"if x {", "while x {", "if x {} else {"} {
		most := strings.Repeat(head, impl.MaxDepth)
		shut := strings.Repeat("}", impl.MaxDepth)
		if code := checkParse(t, most+shut); code != impl.ParDone {
			t.Errorf("%q: %d blocks are refused: %d", head, impl.MaxDepth, code)
		}
		word, _, _ := strings.Cut(head, " ")
		checkFault(t, most+head+"}"+shut, impl.ParDeep, len(most)+len(word)+1)
		for text, ahead := range map[string]int{"x = 1;": 0, "f();": 0, "(f)();": 0, "return 1;": 7, "local x = 1;": 10, "if x {}": 3, "while 1 {}": 6, "t[1] = 1;": 0, "-f();": 0} {
			checkFault(t, most+text+shut, impl.ParDeep, len(most)+ahead)
		}
		checkFault(t, most, impl.ParWant, len(most))
		checkFault(t, most+"local 1", impl.ParWant, len(most)+6)
		checkFault(t, most+"local x 1", impl.ParWant, len(most)+8)
		for _, text := range []string{"local", "local x", "local x =", "if", "while", "return"} {
			checkFault(t, most+text, impl.ParWant, len(most)+len(text))
		}
		// One block less leaves room for whole expressions, but for nothing in these.
		less := strings.Repeat(head, impl.MaxDepth-1)
		shut = shut[1:]
		for _, text := range []string{"x = 1;", "f();", "t.a = x;", "return {};", "local x = 1 + 2;", "if x {}", "while x {}"} {
			if code := checkParse(t, less+text+shut); code != impl.ParDone {
				t.Errorf("%q: refused with %d", text, code)
			}
		}
		for text, ahead := range map[string]int{"x = (1);": 5, "f(1);": 2, "t[1] = x;": 2, "return {1};": 8, "local x = -1;": 10, "if x {f();}": 6, "(f)();": 1, "x = fn () {};": 10, "if x {if x {}}": 9} {
			checkFault(t, less+text+shut, impl.ParDeep, len(less)+ahead)
		}
	}
}

// The block of a function is opened in an expression: its own first token may be the one that is too deep.
func TestFunctionsAtTheDepth(t *testing.T) {
	most := strings.Repeat("if x {", impl.MaxDepth-1) + "x = fn (a, b) "
	for _, behind := range []string{"{", "{}", "{};", "x", ";", ")", "nil", "fn", "1", "}", "{f();}"} {
		checkFault(t, most+behind, impl.ParDeep, len(most))
	}
	checkFault(t, most, impl.ParWant, len(most))
	for _, short := range []string{"x = fn", "x = fn (", "x = fn (a", "x = fn (a,"} {
		text := strings.Repeat("if x {", impl.MaxDepth-1) + short
		checkFault(t, text, impl.ParWant, len(text))
		checkFault(t, text+" 1", impl.ParWant, len(text)+1)
	}
	half := strings.Repeat("x = fn () {", impl.MaxDepth/2)
	shut := strings.Repeat("};", impl.MaxDepth/2)
	if code := checkParse(t, half+shut); code != impl.ParDone {
		t.Error("functions", code)
	}
	checkFault(t, half+"x = fn () {};"+shut, impl.ParDeep, len(half))
	checkFault(t, half+"return fn () {};"+shut, impl.ParDeep, len(half)+7)
}

// Whether the token may stand there is looked at behind the depth; where the text has ended there is none.
func TestDeepAheadOfWant(t *testing.T) {
	deep := strings.Repeat("(", impl.MaxDepth)
	for _, token := range []string{"1", "x", ")", "]", "}", ";", ",", "=", "==", ".", "..", "*", "and", "else", "local", "if", "return", "{", "(", "fn", "-", "not", "#", `""`, "nil"} {
		checkFault(t, "x = "+deep+token, impl.ParDeep, 4+impl.MaxDepth)
		checkFault(t, "x = "+deep+" -- far\n\t"+token+")", impl.ParDeep, 4+impl.MaxDepth+9)
		checkFault(t, "x = "+deep[1:]+"f(("+token, impl.ParDeep, 4+impl.MaxDepth+1)
	}
	for _, token := range []string{"1", "]", "}", ";", ",", "=", "and", "else", "local", "(", "-"} {
		checkFault(t, "x = "+deep[1:]+"f("+token, impl.ParDeep, 4+impl.MaxDepth-1+2)
		checkFault(t, "x = "+deep[1:]+"t["+token, impl.ParDeep, 4+impl.MaxDepth-1+2)
	}
	// A list that may be empty may be shut: nothing is opened in it.
	for _, token := range []string{"1", "]", ")", ";", ",", "=", "and", "else", "local", "(", "-", "x", "x)", "x == 1"} {
		checkFault(t, "x = "+deep[1:]+"{"+token, impl.ParDeep, 4+impl.MaxDepth-1+1)
	}
	checkFault(t, "x = "+deep[1:]+"{[1", impl.ParDeep, 4+impl.MaxDepth-1+2)
	checkFault(t, "x = "+deep[1:]+"{x = ]", impl.ParDeep, 4+impl.MaxDepth-1+5)
	checkFault(t, "x = "+deep[1:]+"{}", impl.ParWant, 4+impl.MaxDepth-1+2)
	checkFault(t, "x = "+deep[1:]+"f()", impl.ParWant, 4+impl.MaxDepth-1+3)
	checkFault(t, "x = "+deep[1:]+"{}x", impl.ParWant, 4+impl.MaxDepth-1+2)
	for _, end := range []string{deep, deep + " ", deep[1:] + "f(", deep[1:] + "t[", deep[1:] + "{", deep[1:] + "{[", deep[1:] + "{x = ", deep + "-- 1"} {
		checkFault(t, "x = "+end, impl.ParWant, 4+len(end))
	}
	// The first fault from the left counts.
	checkFault(t, "x = ; y = "+deep+"1", impl.ParWant, 4)
	checkFault(t, "x = "+deep+"1 = ", impl.ParDeep, 4+impl.MaxDepth)
	checkFault(t, "x = "+deep[1:]+"1 2 "+deep, impl.ParWant, 4+impl.MaxDepth-1+2)
}

// What is shut is open no more: the nesting is not how many there were.
func TestShutIsNotOpen(t *testing.T) {
	side := strings.Repeat("(", impl.MaxDepth-1) + "1" + strings.Repeat(")", impl.MaxDepth-1)
	for _, text := range []string{
		"x = " + side + " + " + side + ";",
		"x = " + side + "; x = " + side + ";",
		"local x = " + side + ";return " + side + ";",
		"if " + side + " {} else {} while " + side + " {}",
		side + "(); " + side + ".a = " + side + ";",
		"f(" + side[1:len(side)-1] + ", " + side[1:len(side)-1] + ");",
		"x = {" + side[1:len(side)-1] + ", [" + side[1:len(side)-1] + "] = " + side[1:len(side)-1] + ", a = " + side[1:len(side)-1] + "};",
	} {
		if code := checkParse(t, text); code != impl.ParDone {
			t.Errorf("%q: refused with %d", text, code)
		}
	}
	many := strings.Repeat("if - - -x {f(1, {2});} ", 80)
	if code := checkParse(t, many); code != impl.ParDone {
		t.Error("one behind the other", code)
	}
}

// Shells in shells by chance, up to about the depth, with any token in the midst, whole or cut off.
func TestShellsByChance(t *testing.T) {
	r := rand.New(rand.NewSource(30))
	codes := map[int]int{}
	inner := append(allWords(), allMarks()...)
	inner = append(inner, "1", "x", `"s"`, "f()", "{}", "", "t[1]", "- 1", "(1)")
	for range 20000 {
		text, behind := "", ""
		open := 0
		want := impl.MaxDepth - 3 + r.Intn(6)
		for open < want && r.Intn(12) > 0 {
			s := statementShells()[r.Intn(len(statementShells()))]
			text, behind, open = text+s.ahead, s.behind+behind, open+s.opens
		}
		if r.Intn(4) > 0 {
			text, behind, open = text+"x = ", ";"+behind, open+1
			for open < want {
				s := expressionShells()[r.Intn(len(expressionShells()))]
				text, behind, open = text+s.ahead, s.behind+behind, open+s.opens
			}
		}
		text += inner[r.Intn(len(inner))]
		if r.Intn(3) > 0 {
			text += " " + behind
		}
		codes[checkParse(t, text)]++
	}
	for _, code := range []int{impl.ParDone, impl.ParWant, impl.ParDeep} {
		if codes[code] < 500 {
			t.Error("codes", codes)
		}
	}
}
