package tests

import (
	"slices"
	"strings"
	"testing"

	"loop.example/g00101/impl"
)

// Statements that begin with an expression: what it is for is told by what stands behind it.
func TestStatementsOfExpressions(t *testing.T) {
	f, x, tab := tName("f"), tName("x"), tName("t")
	one, two := tInt(1), tInt(2)
	checkTwig(t, "f(1);", tDo(tCall(f, one)))
	checkTwig(t, "x = 1;", tSet("x", one))
	checkTwig(t, "t[1] = 2;", tPut(tab, one, two))
	checkTwig(t, "t.a = 2;", tPut(tab, tText("a"), two))
	checkTwig(t, "(f)(1);", tDo(tCall(f, one)))
	checkTwig(t, "(x) = 1;", tSet("x", one))
	checkTwig(t, "((x)) = 1;", tSet("x", one))
	checkTwig(t, "(t[1]) = 2;", tPut(tab, one, two))
	checkTwig(t, "(t).a = 2;", tPut(tab, tText("a"), two))
	checkTwig(t, "((t.a)) = 2;", tPut(tab, tText("a"), two))
	checkTwig(t, "(f(1));", tDo(tCall(f, one)))
	checkTwig(t, "((f)(1));", tDo(tCall(f, one)))
	checkTwig(t, "t.a[x](1);", tDo(tCall(tIndex(tIndex(tab, tText("a")), x), one)))
	checkTwig(t, "f(1)[2] = x;", tPut(tCall(f, one), two, x))
	checkTwig(t, "f(1).a = x;", tPut(tCall(f, one), tText("a"), x))
	checkTwig(t, "(-x)(1);", tDo(tCall(tTurn(impl.TurnNeg, x), one)))
	checkTwig(t, "(x + 1).a = 2;", tPut(tOp(impl.OpAdd, x, one), tText("a"), two))
	checkTwig(t, "x = x == 1;", tSet("x", tOp(impl.OpEq, x, one)))
}

// checkWants reads a text with a blank for its byte '!', which stands ahead of the token that can't stand there.
func checkWants(t *testing.T, marked string) {
	t.Helper()
	at := strings.Index(marked, "!")
	if at < 0 {
		t.Fatalf("%q marks no place", marked)
	}
	text := marked[:at] + " " + marked[at+1:]
	checkFault(t, text, impl.ParWant, len(text)-len(strings.TrimLeft(text[at:], " ")))
}

func TestStatementsThatAreNone(t *testing.T) {
	for _, marked := range []string{
		"x!;", "1!;", "nil!;", `"s"!;`, "{}!;", "fn(){}!;", "t[1]!;", "t.a!;", "x == 1!;", "x + 1!;", "-f()!;", "not f()!;", "f() + 1!;", "f() and f()!;", "f() or x!;", "(x)!;", "(t[1])!;", "(f() == 1)!;",
		"f(1) !=2;", "f(1) != 2;", "1 != 2;", "nil != 1;", "-x != 1;", "x + y != 1;", "x == y != 1;", "x and y != 1;", "{} != 1;", "fn(){} != 1;", "(f()) != 1;", "(x + 1) != 2;", `"s" != 1;`, "#t != 1;",
		"x!, y = 1;", "x!}", "x!)", "x!]", "x!{}", "x!else", "x!y", "x!1", `x!"s"`, "x!if", "x!local", "x!nil", "x!not", "x!#",
		"f()!)", "f()!}", "f()!,", "f()!x;", "f()!f();", "f(1)!{}", "t[1]!]", "t[1]!x", "t.a!1;",
		"!;", "f();!;", "!}", "f();!}", "!)", "!]", "![1] = 2;", "!.a = 1;", "!= 1;", "!== 1;", "!+x();", "!*x();", "!and x;", "!or x;", "!else {}", "!, x = 1;", "!..f();", "!<f();", "!%f();",
		"(!) = 1;", "(!);", "(x!;", "(x!, y) = 1;",
		"x = 1!, 2;", "x = 1 != 2;", "x = y != 2;", "t[1] = 2 != 3;", "x = 1!}", "x = 1!)", "x = 1!x", "x = 1!else", "x = x!local",
		"x = !;", "x = !=;", "x = !local;", "x = !if x {}", "x = !return;", "x = !while;", "x = !and;", "x = !else", "x = !);", "x = !];", "x = !};", "x = !,;", "x = !.;", "x = !..;", "x = !==;", "x = !*;",
		"t. !1 = 2;", "t.![1] = 2;", "t.!if = 1;", "t.!(x);", "t.!nil = 1;", `t.!"a" = 1;`, "t.!;", "t.!.a = 1;",
		"t[!] = 1;", "t[1!, 2] = 3;", "t[1!;", "t[1!) = 1;", "t[1! = 1;", "t[!= 1;", "t[1!} = 1;",
		"f(!, 1);", "f(1!;", "f(1! 2);", "f(1, !);", "f(1, !, 2);", "f(1!];", "f(1!};", "f(x !=1);", "f(!local);", "f(!]);",
	} {
		checkWants(t, marked)
	}
}

func TestStatementsOfWords(t *testing.T) {
	for _, marked := range []string{
		"local !1 = 2;", "local !if = 2;", `local !"x" = 2;`, "local !;", "local !(x) = 1;", "local !nil = 1;", "local !local x = 1;",
		"local x!;", "local x !== 1;", "local x!.a = 1;", "local x![1] = 1;", "local x!, y = 1;", "local x!(1);", "local x !1;",
		"local x = !;", "local x = 1!, 2;", "local x = 1!}", "local x = 1 !local", "local x = y != 1;", "local x = f()!f();",
		"if {!", "if {}!", "if !}", "if !;", "if !else {}", "if !if x {}", "if x!;", "if x!f();", "if x!}", "if x(!", "if x!=", "if x!)", "if x!else {}", "if x != 1 {}", "if x!return 1;", "if x!, y {}",
		"if x {} else !if x {}", "if x {} else !f();", "if x {} else !;", "if x {} else !x", "if x {} else !}", "if x {} else !else {}", "if x {} else {} !else {}", "if x {}!;", "if x {}!)", "if x {}!}",
		"if x {!;}", "if x {f()!}", "if x {x!}", "if x {!else}", "if x {x = 1!}", "if x {return 1!}", "if x {return !}", "if x {!)}", "if x {!]", "if x {!,}",
		"while !;", "while {!", "while {}!", "while x!;", "while x!f();", "while x!}", "while x!else", "while x {} !else {}", "while x {}!;", "while x != 1 {}", "while !while x {}",
		"return!;", "return !}", "return 1!}", "return 1!, 2;", "return 1 !return 2;", "return !local x = 1;", "return x != 1;", "return !else;", "return !if;", "return x!y;",
		"!else {}", "!and", "not!;", "not !else;",
	} {
		checkWants(t, marked)
	}
}

func TestFunctionsThatAreNone(t *testing.T) {
	for _, marked := range []string{
		"x = fn !{};", "x = fn !x() {};", "x = fn !;", "x = fn ![] {};",
		"x = fn (!1) {};", "x = fn (!,) {};", "x = fn (a, !) {};", "x = fn (a! b) {};", "x = fn (a!;", "x = fn (!nil) {};", `x = fn (!"a") {};`, "x = fn (a!.b) {};", "x = fn (a, !1) {};", "x = fn (a != 1) {};", "x = fn (!(a)) {};", "x = fn (a!];", "x = fn (!}", "x = fn (!if) {};", "x = fn (!..) {};",
		"x = fn () !;", "x = fn () !x;", "x = fn () !(x);", "x = fn () !return 1;", "x = fn () !if x {};", "x = fn () !};", "x = fn () ![];",
		"x = fn () {!;};", "x = fn () {return 1!};", "x = fn () {f()!};", "x = fn () {!)};", "x = fn () {}!}", "x = fn () {} !x;", "x = fn () {} !{};", "x = fn () {} !f();",
	} {
		checkWants(t, marked)
	}
}

func TestFields(t *testing.T) {
	a, b, one := tName("a"), tName("b"), tInt(1)
	eq := opMaker(impl.OpEq)
	pairA := tPair(tText("a"), one)
	values := []struct {
		text string
		want twig
	}{
		{"{a}", tTable(tItem(a))},
		{"{a, b}", tTable(tItem(a), tItem(b))},
		{"{a = 1}", tTable(pairA)},
		{"{a = 1, a = 1, a}", tTable(pairA, pairA, tItem(a))},
		{"{a == 1}", tTable(tItem(eq(a, one)))},
		{"{a = a == 1}", tTable(tPair(tText("a"), eq(a, one)))},
		{"{a + 1}", tTable(tItem(tOp(impl.OpAdd, a, one)))},
		{"{a()}", tTable(tItem(tCall(a)))},
		{"{a.b}", tTable(tItem(tIndex(a, tText("b"))))},
		{"{a[1]}", tTable(tItem(tIndex(a, one)))},
		{"{(a)}", tTable(tItem(a))},
		{"{[a] = 1}", tTable(tPair(a, one))},
		{"{[(a)] = 1}", tTable(tPair(a, one))},
		{`{["a"] = 1}`, tTable(pairA)},
		{"{[a == b] = a == b}", tTable(tPair(eq(a, b), eq(a, b)))},
		{"{[{}] = {}}", tTable(tPair(tTable(), tTable()))},
		{"{[a[1]] = a[1]}", tTable(tPair(tIndex(a, one), tIndex(a, one)))},
		{"{a = {a = 1}}", tTable(tPair(tText("a"), tTable(pairA)))},
		{"{a = fn(){a = 1;}}", tTable(tPair(tText("a"), tFn("", tBlock(tSet("a", one)))))},
		{"{fn(){a = 1;}, a = 1}", tTable(tItem(tFn("", tBlock(tSet("a", one)))), pairA)},
		{"{nil}", tTable(tItem(tNil()))},
		{"{not a, -b}", tTable(tItem(tTurn(impl.TurnNot, a)), tItem(tTurn(impl.TurnNeg, b)))},
	}
	for _, v := range values {
		checkValue(t, v.text, v.want)
	}
}

func TestFieldsThatAreNone(t *testing.T) {
	for _, marked := range []string{
		"x = {1,!};", "x = {a,!};", "x = {a = 1,!};", "x = {[1] = 1,!};", "x = {!,};", "x = {!, 1};", "x = {1,!, 2};", "x = {1, 2,!};",
		"x = {1! 2};", "x = {a! b};", "x = {a = 1! b};", "x = {1!; 2};", "x = {1!];", "x = {1!);", "x = {1!;", "x = {!;", "x = {!];", "x = {!);",
		"x = {1 != 2};", `x = {"a" != 2};`, "x = {nil != 2};", "x = {(a) != 2};", "x = {a.b != 2};", "x = {a[1] != 2};", "x = {a() != 2};", "x = {-a != 2};", "x = {a + b != 2};",
		"x = {a = !};", "x = {a = !,};", "x = {a = b != 1};", "x = {a = != 1};", "x = {a = !;", "x = {a == !};", "x = {a == 1 != 2};", "x = {!= 1};", "x = {a = 1!;",
		"x = {[!] = 1};", "x = {[1!, 2] = 1};", "x = {[1!} = 1};", "x = {[1! = 1};", "x = {[1]!};", "x = {[1]!, 2};", "x = {[1] !1};", "x = {[1] !== 1};", "x = {[1]![2] = 1};", "x = {[1]!(2)};", "x = {[1]!.a};", "x = {[1] = !};", "x = {[1] = !,};", "x = {[1] = 1 != 2};", "x = {[1] !+ 1};", "x = {[a != 1] = 1};",
		"x = {!local};", "x = {!return 1;};", "x = {!if a {}};", "x = {f()!;};", "x = {a = 1!;};",
	} {
		checkWants(t, marked)
	}
}

// A text that ends behind any of its tokens but at the end of a statement of the Top wants one more there: at its length.
func TestTextsThatEndTooEarly(t *testing.T) {
	for _, r := range allRows() {
		list := tokensThere(t, r.text)
		for n := range list {
			part := list[:n]
			for _, tail := range []string{"", " ", "\n\t", " -- the end", " --\n"} {
				text, _ := written(part, func(int) string { return " " })
				text += tail
				checkParse(t, text)
				if n == 0 {
					continue
				}
				tree, code, at := impl.Parse(text)
				whole := code == impl.ParDone && at == 0 && len(tree.Nodes) > 0
				if !whole && (code != impl.ParWant || at != len(text)) {
					t.Errorf("%q: %d at %d, want ParWant at its end", text, code, at)
				}
			}
		}
	}
}

// In which texts of one statement may the end come early? Where an 'if' has its block, and none else.
func TestTextsThatMayEnd(t *testing.T) {
	statement := "if f(a[1], {x = -b}) { t.k = fn (a, b) { return a == nil; }; } else { while not (a) { local c = 1 .. \"\"; } }"
	list := tokensThere(t, statement)
	var whole []int
	for n := 1; n <= len(list); n++ {
		text, _ := written(list[:n], func(int) string { return " " })
		tree, code, at := impl.Parse(text)
		if code == impl.ParDone {
			whole = append(whole, n)
			if !impl.TreeOk(tree) {
				t.Errorf("%q: not right", text)
			}
			continue
		}
		if code != impl.ParWant || at != len(text) {
			t.Errorf("%q: %d at %d, want ParWant at %d", text, code, at, len(text))
		}
	}
	elseAt := slices.IndexFunc(list, func(token impl.Token) bool { return token.Text == "else" })
	if !slices.Equal(whole, []int{elseAt, len(list)}) {
		t.Error("whole with so many tokens:", whole)
	}
}

// Texts that Lex refuses: with its place, whatever stands ahead that can't stand there.
func TestTextsThatLexRefuses(t *testing.T) {
	for _, f := range faults() {
		checkFault(t, f.text, impl.ParLex, f.place)
	}
	for text, at := range map[string]int{
		"x = !;":            4,
		"} ) = 01":          6,
		"x = = ~":           6,
		"f(\"":              2,
		"x = 1a;":           4,
		"abcdefghijklm":     0,
		"x x abcdefghijklm": 4,
		"((((((((((((((((((((((((((((((((((((((((~":            40,
		"x = \"" + strings.Repeat("a", impl.MaxText+1) + "\";": 4,
	} {
		checkFault(t, text, impl.ParLex, at)
	}
	checkFault(t, strings.Repeat(" ", impl.MaxSource+1), impl.ParLex, 0)
	checkFault(t, "x"+strings.Repeat(" ", impl.MaxSource), impl.ParLex, 0)
	checkFault(t, "x"+strings.Repeat(" ", impl.MaxSource-1), impl.ParWant, impl.MaxSource)
	checkTwig(t, strings.Repeat(" ", impl.MaxSource))
}
