package tests

import (
	"strings"
	"testing"

	"loop.example/g00101/impl"
)

// Locals of one name: the last one that is seen counts.
func TestLocalsOfOneName(t *testing.T) {
	checkCode(t, "local a = 1; local a = a; a = a;", "0 2 | int 1, set 0, local 0, set 1, local 1, set 1, nil, return")
	checkCode(t, "local a = 1; local b = 2; local a = 3; return a + b;",
		"0 3 | int 1, set 0, int 2, set 1, int 3, set 2, local 2, local 1, op 1, return, nil, return")
	checkCode(t, "local a = 1; if a { a = 2; local a = 3; a = 4; } a = 5;",
		"0 2 | int 1, set 0, local 0, jumpnot 10, int 2, set 0, int 3, set 1, int 4, set 1, int 5, set 0, nil, return")
	checkCode(t, "local a = 1; while a { local a = a; if a { local a = a; a = 2; } a = 3; } a = 4;",
		"0 3 | int 1, set 0, local 0, jumpnot 15, local 0, set 1, local 1, jumpnot 12, local 1, set 2, int 2, set 2, int 3, set 1, jump 2, int 4, set 0, nil, return")
	checkValueCode(t, "fn(a) { a = 1; local a = a; a = 2; }", "fn 1", "1 2 | int 1, set 0, local 0, set 1, int 2, set 1, nil, return")
	checkValueCode(t, "fn(a, b, a) { return a + b; }", "fn 1", "3 3 | local 2, local 1, op 1, return, nil, return")
	checkCode(t, "local a = 1; local f = fn(a) { return a; }; return a;",
		"0 2 | int 1, set 0, fn 1, set 1, local 0, return, nil, return",
		"1 1 | local 0, return, nil, return")
	// Case tells names apart.
	checkCode(t, "local a = 1; local A = 2; return a - A;", "0 2 | int 1, set 0, int 2, set 1, local 0, local 1, op 2, return, nil, return")
}

// A local hides the library function of its name as long as it is seen.
func TestLocalsOfLibraryNames(t *testing.T) {
	checkCode(t, "print(1); local print = print; print(2); print = 3;",
		"0 1 | mark, lib 1, int 1, call 1, pop, lib 1, set 0, mark, local 0, int 2, call 1, pop, int 3, set 0, nil, return")
	checkCode(t, "if 1 { local type = 2; type = 3; } return type;",
		"0 1 | int 1, jumpnot 6, int 2, set 0, int 3, set 0, lib 3, return, nil, return")
	checkCode(t, "local f = fn(co, state) { co(state); }; co(f);",
		"0 1 | fn 1, set 0, mark, lib 8, local 0, call 1, pop, nil, return",
		"2 2 | mark, local 0, local 1, call 1, pop, nil, return")
	checkCode(t, "local error = 1; return fn() { error = error; return next; };",
		"0 1 | int 1, set 0, box 0, fn 1, return, nil, return",
		"0 0 L0 | up 0, setup 0, lib 4, return, nil, return")
	for _, name := range libraryNames() {
		checkTextFlaw(t, name+" = 1;", impl.CodName, 1)
		checkTextFlaw(t, "if 1 { local "+name+" = 2; } "+name+" = 3;", impl.CodName, 6)
	}
}

// What is not seen: behind a block's end, in the other block, ahead, in the own expression, in a loop's question.
func TestWhatIsNotSeen(t *testing.T) {
	checkTextFlaw(t, "if 1 { local a = 2; } print(a);", impl.CodName, 6)
	checkTextFlaw(t, "if 1 { local a = 2; } else { print(a); }", impl.CodName, 5)
	checkTextFlaw(t, "if 1 { local a = 2; } a = 3;", impl.CodName, 6)
	checkTextFlaw(t, "while 1 { local a = 2; } a = 3;", impl.CodName, 6)
	checkTextFlaw(t, "while a { local a = 2; }", impl.CodName, 0)
	checkTextFlaw(t, "while 1 { print(a); local a = 2; }", impl.CodName, 2)
	checkTextFlaw(t, "print(a); local a = 1;", impl.CodName, 1)
	checkTextFlaw(t, "local a = a;", impl.CodName, 0)
	checkTextFlaw(t, "local a = fn() { return a; };", impl.CodName, 0)
	checkTextFlaw(t, "local a = fn() { a = 1; };", impl.CodName, 1)
	checkTextFlaw(t, "local a = fn(b) { return b; }; return b;", impl.CodName, 6)
	checkTextFlaw(t, "local a = fn() { local b = 1; }; return b;", impl.CodName, 5)
	checkTextFlaw(t, "local a = {fn(b) {}, b};", impl.CodName, 4)
	checkTextFlaw(t, "local f = fn() { return a; }; local a = 1;", impl.CodName, 0)
	checkTextFlaw(t, "return A; local a = 1;", impl.CodName, 0)
	checkTextFlaw(t, "local a = 1; return A;", impl.CodName, 2)
}

// A local's own expression names what was seen ahead of it.
func TestOwnExpressions(t *testing.T) {
	checkCode(t, "local a = 1; local a = fn() { return a; }; return a;",
		"0 2 | int 1, set 0, box 0, fn 1, set 1, local 1, return, nil, return",
		"0 0 L0 | up 0, return, nil, return")
	checkCode(t, "local print = fn() { print(1); };",
		"0 1 | fn 1, set 0, nil, return",
		"0 0 | mark, lib 1, int 1, call 1, pop, nil, return")
	// Here the local is seen, and is boxed: it is set, not made.
	checkCode(t, "local f = nil; f = fn() { return f; };",
		"0 1 | nil, set 0, box 0, fn 1, setbox 0, nil, return",
		"0 0 L0 | up 0, return, nil, return")
}

// Boxed is a local that a function within names, from its beginning on.
func TestBoxedLocals(t *testing.T) {
	checkCode(t, "local a = 1; print(a); a = 2; local f = fn() { return a; };",
		"0 2 | int 1, set 0, box 0, mark, lib 1, boxed 0, call 1, pop, int 2, setbox 0, fn 1, set 1, nil, return",
		"0 0 L0 | up 0, return, nil, return")
	checkCode(t, "local a = 1; local f = fn() { a = 2; }; a = 3; return a;",
		"0 2 | int 1, set 0, box 0, fn 1, set 1, int 3, setbox 0, boxed 0, return, nil, return",
		"0 0 L0 | int 2, setup 0, nil, return")
	// By a function within that one.
	checkCode(t, "local a = 1; local b = 2; return fn() { return fn() { a = 3; }; };",
		"0 2 | int 1, set 0, box 0, int 2, set 1, fn 2, return, nil, return",
		"0 0 U0 | int 3, setup 0, nil, return",
		"0 0 L0 | fn 1, return, nil, return")
	// The one of its name, not another one; a function's own locals are not boxed by itself.
	checkCode(t, "local a = 1; local a = 2; local f = fn() { return a; }; local a = 3; a = 4;",
		"0 4 | int 1, set 0, int 2, set 1, box 1, fn 1, set 2, int 3, set 3, int 4, set 3, nil, return",
		"0 0 L1 | up 0, return, nil, return")
	checkCode(t, "local a = 1; local f = fn() { local a = 2; return a; }; return a;",
		"0 2 | int 1, set 0, fn 1, set 1, local 0, return, nil, return",
		"0 1 | int 2, set 0, local 0, return, nil, return")
	// Named behind a return, in a block that is never done.
	checkCode(t, "local a = 1; return a; if false { print(fn() { return a; }); }",
		"0 1 | int 1, set 0, box 0, boxed 0, return, bool 0, jumpnot 12, mark, lib 1, fn 1, call 1, pop, nil, return",
		"0 0 L0 | up 0, return, nil, return")
}

func TestBoxedInLoopsAndBlocks(t *testing.T) {
	checkCode(t, "while 1 { local a = 2; local f = fn() { a = 3; }; a = 4; }",
		"0 2 | int 1, jumpnot 10, int 2, set 0, box 0, fn 1, set 1, int 4, setbox 0, jump 0, nil, return",
		"0 0 L0 | int 3, setup 0, nil, return")
	checkCode(t, "if 1 { local a = 2; print(fn() { return a; }); } else { local a = 3; print(a); }",
		"0 2 | int 1, jumpnot 11, int 2, set 0, box 0, mark, lib 1, fn 1, call 1, pop, jump 18, int 3, set 1, mark, lib 1, local 1, call 1, pop, nil, return",
		"0 0 L0 | up 0, return, nil, return")
	// A box in a function that is itself within a loop.
	checkCode(t, "while 1 { print(fn(a) { local b = a; return fn() { return b; }; }); }",
		"0 0 | int 1, jumpnot 8, mark, lib 1, fn 2, call 1, pop, jump 0, nil, return",
		"0 0 L1 | up 0, return, nil, return",
		"1 2 | local 0, set 1, box 1, fn 1, return, nil, return")
}

// Boxed parameters are boxed ahead of all, in order.
func TestBoxedParameters(t *testing.T) {
	checkValueCode(t, "fn(a, b, c) { a = b; return fn() { return c + a; }; }", "fn 2",
		"0 0 L2 L0 | up 0, up 1, op 1, return, nil, return",
		"3 3 | box 0, box 2, local 1, setbox 0, fn 1, return, nil, return")
	checkValueCode(t, "fn(a, a) { return fn() { return a; }; }", "fn 2",
		"0 0 L1 | up 0, return, nil, return",
		"2 2 | box 1, fn 1, return, nil, return")
	checkValueCode(t, "fn(a) { local a = a; return fn() { a = 1; }; }", "fn 2",
		"0 0 L1 | int 1, setup 0, nil, return",
		"1 2 | local 0, set 1, box 1, fn 1, return, nil, return")
	checkValueCode(t, "fn(a) { return fn(b) { return fn() { return b; }; }; }", "fn 3",
		"0 0 L0 | up 0, return, nil, return",
		"1 1 | box 0, fn 1, return, nil, return",
		"1 1 | fn 2, return, nil, return")
}

// Ups stand in the order in which code names them first: of a set local that is behind its value.
func TestUpsOfOneFunction(t *testing.T) {
	locals := "local a = 1; local b = 2; local c = 3; "
	top := "0 3 | int 1, set 0, box 0, int 2, set 1, box 1, int 3, set 2, box 2, fn 1, return, nil, return"
	checkCode(t, locals+"return fn() { return {c, a, b, a, c}; };", top,
		"0 0 L2 L0 L1 | tab, dup, int 1, up 0, put, dup, int 2, up 1, put, dup, int 3, up 2, put, dup, int 4, up 1, put, dup, int 5, up 0, put, return, nil, return")
	checkCode(t, locals+"return fn() { c = b; return a + b + c; };", top,
		"0 0 L1 L2 L0 | up 0, setup 1, up 2, up 0, op 1, up 1, op 1, return, nil, return")
	checkCode(t, locals+"return fn() { c[b] = a; };", top,
		"0 0 L2 L1 L0 | up 0, up 1, up 2, put, nil, return")
	checkCode(t, locals+"return fn() { if false { b(); } else { a(); } while c {} };", top,
		"0 0 L1 L0 L2 | bool 0, jumpnot 7, mark, up 0, call 0, pop, jump 11, mark, up 1, call 0, pop, up 2, jumpnot 14, jump 11, nil, return")
	// Two locals of one name are two Ups.
	checkCode(t, "local a = 1; return fn(f) { local b = a; local a = 2; return fn() { return a + b; }; };",
		"0 1 | int 1, set 0, box 0, fn 2, return, nil, return",
		"0 0 L2 L1 | up 0, up 1, op 1, return, nil, return",
		"1 3 L0 | up 0, set 1, box 1, int 2, set 2, box 2, fn 1, return, nil, return")
}

// Through two and three functions: an Up of the function right around, or a local of it.
func TestUpsThroughFunctions(t *testing.T) {
	checkCode(t, "local a = 1; return fn() { return fn() { return a; }; };",
		"0 1 | int 1, set 0, box 0, fn 2, return, nil, return",
		"0 0 U0 | up 0, return, nil, return",
		"0 0 L0 | fn 1, return, nil, return")
	checkCode(t, "local a = 1; return fn(b) { return fn(c) { return fn(d) { return {a, b, c, d}; }; }; };",
		"0 1 | int 1, set 0, box 0, fn 3, return, nil, return",
		"1 1 U0 U1 L0 | tab, dup, int 1, up 0, put, dup, int 2, up 1, put, dup, int 3, up 2, put, dup, int 4, local 0, put, return, nil, return",
		"1 1 U0 L0 | box 0, fn 1, return, nil, return",
		"1 1 L0 | box 0, fn 2, return, nil, return")
	checkCode(t, "local x = 0; local a = 1; return fn() { return fn() { return fn() { a = x; }; }; };",
		"0 2 | int 0, set 0, box 0, int 1, set 1, box 1, fn 3, return, nil, return",
		"0 0 U0 U1 | up 0, setup 1, nil, return",
		"0 0 U0 U1 | fn 1, return, nil, return",
		"0 0 L0 L1 | fn 2, return, nil, return")
}

// Each function has an order of its own.
func TestUpsInOtherOrders(t *testing.T) {
	locals := "local a = 1; local b = 2; "
	top := "0 2 | int 1, set 0, box 0, int 2, set 1, box 1, fn 2, return, nil, return"
	checkCode(t, locals+"return fn() { local c = a; return fn() { return b + a; }; };", top,
		"0 0 U1 U0 | up 0, up 1, op 1, return, nil, return",
		"0 1 L0 L1 | up 0, set 0, fn 1, return, nil, return")
	checkCode(t, locals+"return fn() { local c = fn() { return b + a; }; return a; };", top,
		"0 0 U0 U1 | up 0, up 1, op 1, return, nil, return",
		"0 1 L1 L0 | fn 1, set 0, up 1, return, nil, return")
	// A set whose value is a function: what that one names comes first.
	checkCode(t, locals+"return fn() { a = fn() { return b; }; };", top,
		"0 0 U0 | up 0, return, nil, return",
		"0 0 L1 L0 | fn 1, setup 1, nil, return")
	// Two functions beside each other share what the one around has.
	checkCode(t, "local a = 1; local b = 2; return fn(c) { return {fn() { return b; }, fn() { return c + a + b; }, a}; };",
		"0 2 | int 1, set 0, box 0, int 2, set 1, box 1, fn 3, return, nil, return",
		"0 0 U0 | up 0, return, nil, return",
		"0 0 L0 U1 U0 | up 0, up 1, op 1, up 2, op 1, return, nil, return",
		"1 1 L1 L0 | box 0, tab, dup, int 1, fn 1, put, dup, int 2, fn 2, put, dup, int 3, up 1, put, return, nil, return")
}

// A name that is none: the first one in the order of code, an NSet behind its Kid.
func TestNamesThatAreNone(t *testing.T) {
	checkTextFlaw(t, "x();", impl.CodName, 0)
	checkTextFlaw(t, "x = 1;", impl.CodName, 1)
	checkTextFlaw(t, "x = y;", impl.CodName, 0)
	checkTextFlaw(t, "x = {1, {y}};", impl.CodName, 2)
	checkTextFlaw(t, "x = fn() { y = 1; };", impl.CodName, 1)
	checkTextFlaw(t, "x = x;", impl.CodName, 0)
	checkTextFlaw(t, "local a = 1; b = a;", impl.CodName, 3)
	checkTextFlaw(t, "print = print;", impl.CodName, 1)
	checkTextFlaw(t, "print = x;", impl.CodName, 0)
	checkTextFlaw(t, "print(x, y);", impl.CodName, 1)
	checkTextFlaw(t, "x[y] = z;", impl.CodName, 0)
	checkTextFlaw(t, "print[1] = z;", impl.CodName, 2)
	checkTextFlaw(t, "print(fn(x) { return y; }, z);", impl.CodName, 2)
	checkTextFlaw(t, "if 1 {} else { x(); } y();", impl.CodName, 2)
	checkTextFlaw(t, "local a = 1; return fn() { return fn() { return {a, b}; }; };", impl.CodName, 4)
	checkTextFlaw(t, "local a = {x = 1}; return x;", impl.CodName, 5)
	checkTextFlaw(t, `local a = "x"; return x;`, impl.CodName, 2)
	checkTextFlaw(t, "return Print;", impl.CodName, 0)
}

// Trees that are not right, whatever else is wrong with them.
func TestTreesThatAreNotCompiled(t *testing.T) {
	bad := []impl.Tree{{}, {Top: -1}, {Top: 1}, {Nodes: []impl.Knot{{Kind: impl.NNil}}}}
	for _, turned := range oneFieldTurned(broad().tree()) {
		if !impl.TreeOk(turned) {
			bad = append(bad, turned)
		}
	}
	for _, turned := range oneFieldTurned(treeOf(t, "local a = 1; local f = fn(b) { return a + b; }; while f(a) { a = {f}; } x = 1;")) {
		if !impl.TreeOk(turned) {
			bad = append(bad, turned)
		}
	}
	bad = append(bad, many(impl.MaxNodes+1))
	bad = append(bad, tBlock(tDo(tName("x"))).tree(), tBlock(tLocal("while", tNil())).tree(), tBlock(tReturn(tText(strings.Repeat("x", impl.MaxText+1)))).tree())
	if len(bad) < 100 {
		t.Error("only", len(bad), "trees")
	}
	for _, tree := range bad {
		checkFlaw(t, tree, impl.CodBad, -1)
	}
}
