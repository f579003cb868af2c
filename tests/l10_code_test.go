package tests

import (
	"fmt"
	"slices"
	"strings"
	"testing"

	"loop.example/g00101/impl"
)

// opWords are what the instructions are called in these tests, by their numbers.
var opWords = strings.Fields("? nil bool int text local boxed up set setbox setup box fn tab index put op turn jump jumpnot and or mark call return pop dup lib")

// bareOps have no A.
var bareOps = strings.Fields("nil tab index put mark return pop dup")

func toldIns(i impl.Ins) string {
	if i.Op < 1 || i.Op >= len(opWords) {
		return fmt.Sprint("op? ", i.Op, " ", i.A)
	}
	word := opWords[i.Op]
	if i.A == 0 && slices.Contains(bareOps, word) {
		return word
	}
	return fmt.Sprint(word, " ", i.A)
}

// toldProto is a line: Params, Slots, the Ups (L0: the slot 0 of the function around; U0: its Up 0), and the code behind a bar.
func toldProto(p impl.Proto) string {
	words := []string{fmt.Sprint(p.Params), fmt.Sprint(p.Slots)}
	for _, up := range p.Ups {
		letter := "U"
		if up.Local {
			letter = "L"
		}
		words = append(words, fmt.Sprint(letter, up.Index))
	}
	var code []string
	for _, i := range p.Code {
		code = append(code, toldIns(i))
	}
	return strings.Join(words, " ") + " | " + strings.Join(code, ", ")
}

// toldModule is a line a Proto, and one of the texts, if there are any.
func toldModule(m impl.Module) []string {
	var lines []string
	for _, p := range m.Protos {
		lines = append(lines, toldProto(p))
	}
	if len(m.Texts) > 0 {
		lines = append(lines, fmt.Sprintf("texts %q", m.Texts))
	}
	return lines
}

func treeOf(t *testing.T, text string) impl.Tree {
	t.Helper()
	tree, code, at := impl.Parse(text)
	if code != impl.ParDone {
		t.Fatalf("%q: refused with %d at %d", text, code, at)
	}
	return tree
}

// moduleOf is the code of a tree that is not refused.
func moduleOf(t *testing.T, tree impl.Tree) impl.Module {
	t.Helper()
	m, code, node := impl.Compile(tree)
	if code != impl.CodDone || node != -1 {
		t.Fatalf("refused with %d at %d:\n%.2000s", code, node, treeLines(tree))
	}
	return m
}

// checkCode: the text's code is told by just these lines.
func checkCode(t *testing.T, text string, want ...string) {
	t.Helper()
	got := toldModule(moduleOf(t, treeOf(t, text)))
	if !slices.Equal(got, want) {
		t.Errorf("%q is\n%s\nwant\n%s", text, strings.Join(got, "\n"), strings.Join(want, "\n"))
	}
}

// checkValueCode: of 'return e;' the code of e alone is looked at; more lines are those of the Protos behind, and the texts.
func checkValueCode(t *testing.T, e string, code string, more ...string) {
	t.Helper()
	checkCode(t, "return "+e+";", append([]string{"0 0 | " + code + ", return, nil, return"}, more...)...)
}

// checkFlaw: the tree is refused, and there is no Module.
func checkFlaw(t *testing.T, tree impl.Tree, code int, node int) {
	t.Helper()
	m, gotCode, gotNode := impl.Compile(tree)
	if gotCode != code || gotNode != node {
		t.Errorf("%d at %d, want %d at %d, of\n%.2000s", gotCode, gotNode, code, node, treeLines(tree))
	}
	if len(m.Protos) != 0 || len(m.Texts) != 0 {
		t.Errorf("refused with %d at %d, and there is a Module:\n%s", code, node, strings.Join(toldModule(m), "\n"))
	}
}

func checkTextFlaw(t *testing.T, text string, code int, node int) {
	t.Helper()
	checkFlaw(t, treeOf(t, text), code, node)
}

func TestCodeConstants(t *testing.T) {
	ops := []int{impl.ONil, impl.OBool, impl.OInt, impl.OText, impl.OLocal, impl.OBoxed, impl.OUp, impl.OSet, impl.OSetBox, impl.OSetUp, impl.OBox, impl.OFn, impl.OTab, impl.OIndex, impl.OPut, impl.OOp, impl.OTurn, impl.OJump, impl.OJumpNot, impl.OAnd, impl.OOr, impl.OMark, impl.OCall, impl.OReturn, impl.OPop, impl.ODup, impl.OLib}
	for i, n := range ops {
		if n != i+1 {
			t.Error("instruction", i+1, "is", n)
		}
	}
	if impl.CodDone != 0 || impl.CodBad != 1 || impl.CodName != 2 || impl.CodMany != 3 {
		t.Error("codes", impl.CodDone, impl.CodBad, impl.CodName, impl.CodMany)
	}
	if impl.MaxLocals != 20 || impl.MaxProtos != 100 || impl.MaxCode != 4000 || impl.MaxArgs != 40 || impl.MaxTexts != 255 {
		t.Error("limits", impl.MaxLocals, impl.MaxProtos, impl.MaxCode, impl.MaxArgs, impl.MaxTexts)
	}
}

func libraryNames() []string {
	return []string{"print", "tostr", "type", "next", "pcall", "error", "failed", "co", "resume", "yield", "state"}
}

func TestLibOf(t *testing.T) {
	for i, name := range libraryNames() {
		if impl.LibOf(name) != i+1 {
			t.Error(name, "is", impl.LibOf(name))
		}
		for _, other := range []string{name + "x", name + " ", " " + name, name[1:], name[:len(name)-1], strings.ToUpper(name), name + name, name + "\x00"} {
			if impl.LibOf(other) != 0 {
				t.Errorf("%q is %d", other, impl.LibOf(other))
			}
		}
	}
	for _, other := range append(allWords(), "", "x", "a", "\xff", "0", "?", strings.Repeat("print", 1000)) {
		if impl.LibOf(other) != 0 {
			t.Errorf("%.20q is %d", other, impl.LibOf(other))
		}
	}
}

// What has no Kids, and what is made of Kids alone.
func TestCodeOfValues(t *testing.T) {
	checkCode(t, "", "0 0 | nil, return")
	checkValueCode(t, "nil", "nil")
	checkValueCode(t, "false", "bool 0")
	checkValueCode(t, "true", "bool 1")
	checkValueCode(t, "0", "int 0")
	checkValueCode(t, "999999999999999", "int 999999999999999")
	checkValueCode(t, `""`, "text 0", `texts [""]`)
	checkValueCode(t, `"a b"`, "text 0", `texts ["a b"]`)
	checkValueCode(t, `"print"`, "text 0", `texts ["print"]`)
	for i, name := range libraryNames() {
		checkValueCode(t, name, fmt.Sprint("lib ", i+1))
	}
	checkValueCode(t, "1[2]", "int 1, int 2, index")
	checkValueCode(t, "print.a", "lib 1, text 0, index", `texts ["a"]`)
	checkValueCode(t, "1[2][3[4]]", "int 1, int 2, index, int 3, int 4, index, index")
	for i, mark := range []string{"+", "-", "*", "/", "%", "..", "==", "~=", "<", "<="} {
		checkValueCode(t, "1 "+mark+" 2", fmt.Sprint("int 1, int 2, op ", i+1))
	}
	checkValueCode(t, "1 - 2 * 3", "int 1, int 2, int 3, op 3, op 2")
	checkValueCode(t, "1 - 2 - 3", "int 1, int 2, op 2, int 3, op 2")
	for i, mark := range []string{"-", "not", "#"} {
		checkValueCode(t, mark+" 1", fmt.Sprint("int 1, turn ", i+1))
	}
	checkValueCode(t, "- not # 1", "int 1, turn 3, turn 2, turn 1")
}

func TestCodeOfCalls(t *testing.T) {
	checkCode(t, "print();", "0 0 | mark, lib 1, call 0, pop, nil, return")
	checkCode(t, "print(1);", "0 0 | mark, lib 1, int 1, call 1, pop, nil, return")
	checkCode(t, "print(1, nil, true);", "0 0 | mark, lib 1, int 1, nil, bool 1, call 3, pop, nil, return")
	checkValueCode(t, "print(type(1), 2)", "mark, lib 1, mark, lib 3, int 1, call 1, int 2, call 2")
	checkValueCode(t, "1()()", "mark, mark, int 1, call 0, call 0")
	checkValueCode(t, "1 .a(2)[3]", "mark, int 1, text 0, index, int 2, call 1, int 3, index", `texts ["a"]`)
	checkCode(t, "print(1)(2);", "0 0 | mark, mark, lib 1, int 1, call 1, int 2, call 1, pop, nil, return")
}

func TestCodeOfFunctions(t *testing.T) {
	checkValueCode(t, "fn() {}", "fn 1", "0 0 | nil, return")
	checkValueCode(t, "fn(a, b) {}", "fn 1", "2 2 | nil, return")
	checkValueCode(t, "fn(a, b) { return b; }", "fn 1", "2 2 | local 1, return, nil, return")
	checkValueCode(t, "fn(a) { local b = a; a = b; }", "fn 1", "1 2 | local 0, set 1, local 1, set 0, nil, return")
	checkValueCode(t, "fn() {}()", "mark, fn 1, call 0", "0 0 | nil, return")
	// The one within has the lesser node number.
	checkValueCode(t, "fn(a) { return fn(b, c) { return 1; }; }", "fn 2",
		"2 2 | int 1, return, nil, return",
		"1 1 | fn 1, return, nil, return")
	checkValueCode(t, "{fn(a) {}, fn(a, b) { return {fn() {}, fn(a, b, c) {}}; }, fn(a, b, c, d) {}}",
		"tab, dup, int 1, fn 1, put, dup, int 2, fn 4, put, dup, int 3, fn 5, put",
		"1 1 | nil, return",
		"0 0 | nil, return",
		"3 3 | nil, return",
		"2 2 | tab, dup, int 1, fn 2, put, dup, int 2, fn 3, put, return, nil, return",
		"4 4 | nil, return")
	// A function that stands where it is called, and as an argument: numbered as they stand.
	checkCode(t, "fn(a) {}(fn(b, c) {}, fn() {});", "0 0 | mark, fn 1, fn 2, fn 3, call 2, pop, nil, return",
		"1 1 | nil, return", "2 2 | nil, return", "0 0 | nil, return")
}

func TestCodeOfTables(t *testing.T) {
	checkValueCode(t, "{}", "tab")
	checkValueCode(t, "{7}", "tab, dup, int 1, int 7, put")
	checkValueCode(t, "{7, 8, 7}", "tab, dup, int 1, int 7, put, dup, int 2, int 8, put, dup, int 3, int 7, put")
	checkValueCode(t, "{[7] = 8}", "tab, dup, int 7, int 8, put")
	checkValueCode(t, "{a = 8}", "tab, dup, text 0, int 8, put", `texts ["a"]`)
	// Pairs take no number away, whatever their keys are.
	checkValueCode(t, "{a = 5, 6, [1] = 7, 8, [nil] = 9, b = 10, 11}",
		"tab, dup, text 0, int 5, put, dup, int 1, int 6, put, dup, int 1, int 7, put, dup, int 2, int 8, put, "+
			"dup, nil, int 9, put, dup, text 1, int 10, put, dup, int 3, int 11, put", `texts ["a" "b"]`)
	// Each table counts its own items.
	checkValueCode(t, "{{7, {8}, 9}, {}, [{5}] = {6}, 4}",
		"tab, dup, int 1, tab, dup, int 1, int 7, put, dup, int 2, tab, dup, int 1, int 8, put, put, dup, int 3, int 9, put, put, "+
			"dup, int 2, tab, put, "+
			"dup, tab, dup, int 1, int 5, put, tab, dup, int 1, int 6, put, put, "+
			"dup, int 3, int 4, put")
	checkCode(t, "local t = {}; t[1] = 2; t.a = t;",
		"0 1 | tab, set 0, local 0, int 1, int 2, put, local 0, text 0, local 0, put, nil, return", `texts ["a"]`)
	checkCode(t, "1[2][3] = 4;", "0 0 | int 1, int 2, index, int 3, int 4, put, nil, return")
}

func TestCodeOfAndOr(t *testing.T) {
	checkValueCode(t, "1 and 2", "int 1, and 3, int 2")
	checkValueCode(t, "1 or 2", "int 1, or 3, int 2")
	checkValueCode(t, "1 and 2 and 3", "int 1, and 3, int 2, and 5, int 3")
	checkValueCode(t, "1 and (2 and 3)", "int 1, and 5, int 2, and 5, int 3")
	checkValueCode(t, "1 or 2 or 3", "int 1, or 3, int 2, or 5, int 3")
	checkValueCode(t, "1 or 2 and 3", "int 1, or 5, int 2, and 5, int 3")
	checkValueCode(t, "(1 or 2) and (3 or 4)", "int 1, or 3, int 2, and 7, int 3, or 7, int 4")
	checkValueCode(t, "(1 and 2 or 3) == (4 or 5)", "int 1, and 3, int 2, or 5, int 3, int 4, or 8, int 5, op 7")
	checkCode(t, "print(1 and 2, 3 or 4);", "0 0 | mark, lib 1, int 1, and 5, int 2, int 3, or 8, int 4, call 2, pop, nil, return")
	// The place is one of the function's own code.
	checkValueCode(t, "1 and fn() { return 2 or 3; }", "int 1, and 3, fn 1", "0 0 | int 2, or 3, int 3, return, nil, return")
}

func TestCodeOfIf(t *testing.T) {
	checkCode(t, "if 1 {}", "0 0 | int 1, jumpnot 2, nil, return")
	checkCode(t, "if 1 {} else {}", "0 0 | int 1, jumpnot 3, jump 3, nil, return")
	checkCode(t, "if 1 { print(); }", "0 0 | int 1, jumpnot 6, mark, lib 1, call 0, pop, nil, return")
	checkCode(t, "if 1 { print(); } else {}", "0 0 | int 1, jumpnot 7, mark, lib 1, call 0, pop, jump 7, nil, return")
	checkCode(t, "if 1 {} else { print(); }", "0 0 | int 1, jumpnot 3, jump 7, mark, lib 1, call 0, pop, nil, return")
	checkCode(t, "if 1 { return 2; } else { return 3; } return 4;",
		"0 0 | int 1, jumpnot 5, int 2, return, jump 7, int 3, return, int 4, return, nil, return")
	checkCode(t, "if 1 and 2 { if 3 { return 4; } else { if 5 { return 6; } } } else { return 7; }",
		"0 0 | int 1, and 3, int 2, jumpnot 14, int 3, jumpnot 9, int 4, return, jump 13, int 5, jumpnot 13, int 6, return, jump 16, int 7, return, nil, return")
}

func TestCodeOfWhile(t *testing.T) {
	checkCode(t, "while 1 {}", "0 0 | int 1, jumpnot 3, jump 0, nil, return")
	checkCode(t, "while 1 { print(); }", "0 0 | int 1, jumpnot 7, mark, lib 1, call 0, pop, jump 0, nil, return")
	checkCode(t, "print(); while 1 or 2 {} return 3;",
		"0 0 | mark, lib 1, call 0, pop, int 1, or 7, int 2, jumpnot 9, jump 4, int 3, return, nil, return")
	checkCode(t, "while 1 { while 2 { return 3; } if 4 { return 5; } }",
		"0 0 | int 1, jumpnot 12, int 2, jumpnot 7, int 3, return, jump 2, int 4, jumpnot 11, int 5, return, jump 0, nil, return")
	checkCode(t, "if 1 { while 2 {} } else { while 3 {} }",
		"0 0 | int 1, jumpnot 6, int 2, jumpnot 5, jump 2, jump 9, int 3, jumpnot 9, jump 6, nil, return")
}

func TestCodeOfStatements(t *testing.T) {
	checkCode(t, "local a = 1;", "0 1 | int 1, set 0, nil, return")
	checkCode(t, "local a = 1; local b = a; a = b;", "0 2 | int 1, set 0, local 0, set 1, local 1, set 0, nil, return")
	checkCode(t, "return nil; return 1;", "0 0 | nil, return, int 1, return, nil, return")
	checkCode(t, "print(1); print(2);", "0 0 | mark, lib 1, int 1, call 1, pop, mark, lib 1, int 2, call 1, pop, nil, return")
}

// A text is numbered where its code is made: that of a function where it stands.
func TestTextsOfCode(t *testing.T) {
	checkCode(t, `print("b", "a", "b");`, "0 0 | mark, lib 1, text 0, text 1, text 0, call 3, pop, nil, return", `texts ["b" "a"]`)
	checkCode(t, `print("b"); print(fn() { return "c" .. "b"; }, "d"); print("c", {x = "x"});`,
		"0 0 | mark, lib 1, text 0, call 1, pop, mark, lib 1, fn 1, text 2, call 2, pop, "+
			"mark, lib 1, text 1, tab, dup, text 3, text 3, put, call 2, pop, nil, return",
		"0 0 | text 1, text 0, op 6, return, nil, return",
		`texts ["b" "c" "d" "x"]`)
	// The function within has the lesser number, and its text stands behind.
	checkValueCode(t, `fn() { print("a"); print(fn() { return "b"; }); return "c"; }`, "fn 2",
		"0 0 | text 1, return, nil, return",
		"0 0 | mark, lib 1, text 0, call 1, pop, mark, lib 1, fn 1, call 1, pop, text 2, return, nil, return",
		`texts ["a" "b" "c"]`)
	checkCode(t, `local t = {a = "b"}; t.b["a"] = t.c;`,
		"0 1 | tab, dup, text 0, text 1, put, set 0, local 0, text 1, index, text 0, local 0, text 2, index, put, nil, return",
		`texts ["a" "b" "c"]`)
	// Names are no texts, and neither are those of other letters.
	checkCode(t, `local a = "A"; print(a, "", " ");`, "0 1 | text 0, set 0, mark, lib 1, local 0, text 1, text 2, call 3, pop, nil, return", `texts ["A" "" " "]`)
}
