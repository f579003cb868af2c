package tests

import (
	"fmt"
	"math/rand"
	"strings"
	"testing"

	"loop.example/g00101/impl"
)

// checkNoMeaning: the code is told with each fuel, and nothing beside.
func checkNoMeaning(t *testing.T, name string, tree impl.Tree, want int) {
	t.Helper()
	for _, fuel := range []int{0, 1, 100, impl.MaxFuel} {
		told, code := impl.Mean(tree, fuel)
		if code != want || !sameTold(told, impl.Told{}) {
			t.Errorf("%s with %d: %d %+v, want %d", name, fuel, code, told, want)
		}
	}
	for _, fuel := range []int{-1, impl.MaxFuel + 1} {
		if told, code := impl.Mean(tree, fuel); code != impl.CodBad || !sameTold(told, impl.Told{}) {
			t.Errorf("%s with %d: %d %+v", name, fuel, code, told)
		}
	}
}

// Trees of which Compile does not answer CodDone.
func TestMeaningsOfWrongTrees(t *testing.T) {
	checkNoMeaning(t, "nothing", impl.Tree{}, impl.CodBad)
	checkNoMeaning(t, "a Top and no nodes", impl.Tree{Top: 5}, impl.CodBad)
	checkNoMeaning(t, "a Top below", impl.Tree{Nodes: tBlock().tree().Nodes, Top: -1}, impl.CodBad)
	checkNoMeaning(t, "a Top that is no block", tNil().tree(), impl.CodBad)
	checkNoMeaning(t, "too many nodes", many(impl.MaxNodes+1), impl.CodBad)
	right := tBlock(tLocal("a", tFn("f a", broad())), tReturn(tName("a"))).tree()
	if _, code := impl.Mean(right, 9); code != impl.CodDone {
		t.Fatal("the tree that is turned is refused with", code)
	}
	bad := 0
	for name, tree := range oneFieldTurned(right) {
		if _, code, _ := impl.Compile(tree); code != impl.CodDone {
			checkNoMeaning(t, name, tree, impl.CodBad)
			bad++
		} else if _, code := impl.Mean(tree, 9); code != impl.CodDone {
			t.Error(name, "is refused with", code)
		}
	}
	if bad < 100 {
		t.Error("only", bad, "trees that are not compiled")
	}
	// Names that are none: CodName of Compile is CodBad here.
	for _, text := range []string{"x = 1;", "print(x);", "local a = a;", "if 1 { local a = 1; } print(a);", "print = 1;", "co = 1;", "return fn() { return fn() { yield = 1; }; };", "return Co;", "return 1; x = 1;"} {
		checkNoMeaning(t, text, treeOf(t, text), impl.CodBad)
	}
	// Too many of something.
	checkNoMeaning(t, "21 locals", tBlock(locals(21)...).tree(), impl.CodBad)
	checkNoMeaning(t, "100 functions", tBlock(tReturn(within(100))).tree(), impl.CodBad)
	checkNoMeaning(t, "41 arguments", tBlock(tDo(tCall(tName("print"), times(41, func(int) twig { return tNil() })...))).tree(), impl.CodBad)
	checkNoMeaning(t, "256 texts", tBlock(tReturn(tTable(textItems(0, 256)...))).tree(), impl.CodBad)
	if told := meaning(t, tBlock(locals(20)...).tree(), 20); told.State != impl.MachDone {
		t.Error("20 locals", told)
	}
	if told := meaning(t, tBlock(tReturn(within(99))).tree(), 1); told.State != impl.MachDone {
		t.Error("99 functions", told)
	}
}

// What names coroutines of the library has no meaning, wherever it stands; what has such a name and names a local has one.
func TestMeaningsWithoutCoroutines(t *testing.T) {
	for _, name := range []string{"co", "resume", "yield"} {
		for _, text := range []string{
			"%s(1);", "local c = %s(print);", "return %s;", "return 1; print(%s);", "if false { %s(); }", "while %s { }", "local f = fn() { return %s; };", "return fn() { return fn() { %s(1); }; };",
			"local t = {%s};", "local t = {[%s] = 1};", "local t = {}; t[%s] = 1;", "local t = {}; t.x = %s;", "print(1, 2, %s);", "print(not %s);", "print(1 and %s);", "print(1 == %s);",
			// The local is not seen there: in its own value, behind its block, in another one, ahead of it.
			"local %[1]s = %[1]s;", "if 1 { local %[1]s = 2; } print(%[1]s);", "if 1 { local %[1]s = 2; } else { print(%[1]s); }", "print(%[1]s); local %[1]s = 1;", "local f = fn(%[1]s) { }; f(%[1]s);",
			"local %[1]s = fn() { return %[1]s; };", "while %[1]s { local %[1]s = 1; }",
		} {
			text = fmt.Sprintf(text, name)
			checkNoMeaning(t, text, treeOf(t, text), impl.CodName)
		}
		for _, text := range []string{
			"local %[1]s = 1; print(%[1]s); %[1]s = 2; print(%[1]s);", "local f = fn(%[1]s) { print(%[1]s); %[1]s = 2; return fn() { return %[1]s; }; }; print(f(1)());",
			"local %[1]s = 1; if true { print(%[1]s); } local f = fn() { return %[1]s + 1; }; print(f());",
		} {
			checkMeant(t, done(fmt.Sprintf(text, name), "1 2"))
		}
		// A text is no name, nor is another case.
		checkMeant(t, done(fmt.Sprintf(`local t = {%[1]s = 1}; print(t.%[1]s); t.%[1]s = 2; print(t["%[1]s"]); local x = "%[1]s";`, name), "1 2"))
		// What is not compiled comes first.
		text := fmt.Sprintf("print(%s); x = 1;", name)
		checkNoMeaning(t, text, treeOf(t, text), impl.CodBad)
		text = fmt.Sprintf("%[1]s = %[1]s;", name)
		checkNoMeaning(t, text, treeOf(t, text), impl.CodBad)
	}
	for _, name := range without(libraryNames(), "co", "resume", "yield") {
		if _, code := impl.Mean(treeOf(t, "return "+name+";"), 5); code != impl.CodDone {
			t.Error(name, "is refused with", code)
		}
	}
}

// checkToldApart: nothing was written into the tree, no text lies in it, and no two answers share memory.
func checkToldApart(t *testing.T, one impl.Tree, fuel int) {
	t.Helper()
	tree, all := spareTree(one)
	before := all()
	first, code := impl.Mean(tree, fuel)
	second, _ := impl.Mean(tree, fuel)
	if all() != before {
		t.Fatalf("written into:\n%s\nwas\n%s", all(), before)
	}
	if !sameTold(first, second) {
		t.Fatalf("%d tells %+v, then %+v", code, first, second)
	}
	if memoryOf(first.Out).meets(memoryOf(second.Out)) {
		t.Fatal("two answers share memory")
	}
	for i, text := range first.Out {
		for _, other := range append(second.Out[:len(second.Out):len(second.Out)], first.Out[:i]...) {
			if sharesBytes(text, other) || sharesBytes(other, text) {
				t.Fatalf("%q shares memory with another text", text)
			}
		}
		for _, knot := range tree.Nodes {
			if sharesBytes(text, knot.Text) || sharesBytes(knot.Text, text) {
				t.Fatalf("%q shares memory with the tree", text)
			}
		}
	}
	clear(first.Out[:cap(first.Out)])
	if again, _ := impl.Mean(tree, fuel); !sameTold(again, second) {
		t.Fatal("it hangs on what was answered")
	}
}

func TestMeantTreesStay(t *testing.T) {
	r := rand.New(rand.NewSource(136))
	for range 300 {
		checkToldApart(t, someMeaningTree(r, 1+r.Intn(6)), r.Intn(200))
	}
	for _, tree := range oneFieldTurned(broad().tree()) {
		checkToldApart(t, tree, 100)
	}
	// Texts of the program's own words, small numbers, those of the tree, and what is printed twice.
	text := `local s = "text"; print(nil); print(true); print(false); print(7); print(123); print("text"); print(s); print(s); print({}); print(print); print(type(1)); print(tostr(s)); print(s .. ""); error(s);`
	for fuel := range 60 {
		checkToldApart(t, treeOf(t, text), fuel)
	}
}

// There is no stack: a program calls as deep as its units go.
func TestMeaningsThatCallDeep(t *testing.T) {
	checkMeant(t,
		done("local d = nil; d = fn(n) { if n == 0 { return 0; } return 1 + d(n - 1); }; print(d(1300));", "1300"),
		done("local d = nil; d = fn(n) { if n == 0 { error(7); } return pcall(d, n - 1); }; print(d(700)); print(failed());", "7 false"),
		done("local d = nil; d = fn(n) { if n == 0 { error(7); } return {d(n - 1)}; }; print(pcall(d, 1200)); print(failed());", "7 true"),
		ends("local d = nil; d = fn(n) { if n == 0 { return nil + 1; } return {d(n - 1)}; }; d(1200);", "", impl.ErrType),
		done("local f = fn(x) { return x; }; local i = 0; while i < 500 { i = i + 1; local g = f; f = fn(x) { return g(x + 1); }; } print(f(0));", "500"),
	)
	for _, text := range []string{"local d = nil; d = fn() { return d(); }; d();", "local d = nil; d = fn() { return pcall(d); }; pcall(d);", "local d = nil; d = fn(x) { d({x}); }; d();"} {
		if told := meaning(t, treeOf(t, text), impl.MaxFuel); !sameTold(told, impl.Told{State: impl.MachFuel}) {
			t.Error(text, told)
		}
	}
}

// deepCalls is a function that calls itself from the bottom of a tree as deep as there may be.
func deepCalls(wrap func(e twig) twig, times int) impl.Tree {
	e := tCall(tName("d"))
	for range times {
		e = wrap(e)
	}
	return tBlock(tLocal("d", tNil()), tSet("d", fnOf("", tReturn(e))), tDo(tCall(tName("print"), tCall(tName("d"))))).tree()
}

// However deep trees and calls are together, it ends.
func TestMeaningsOfDeepTrees(t *testing.T) {
	e := tInt(1)
	for range 2990 {
		e = tTurn(impl.TurnNeg, e)
	}
	if told := meaning(t, tBlock(tDo(tCall(tName("print"), e))).tree(), 2); !sameTold(told, impl.Told{Out: []string{"1"}, State: impl.MachDone}) {
		t.Error("turns", told)
	}
	statement := tDo(tCall(tName("print"), tInt(5)))
	for range 990 {
		statement = tIf(tTrue(), tBlock(statement))
	}
	if told := meaning(t, tBlock(statement).tree(), 992); !sameTold(told, impl.Told{Out: []string{"5"}, State: impl.MachDone}) {
		t.Error("blocks", told)
	}
	for name, tree := range map[string]impl.Tree{
		"turns":  deepCalls(func(e twig) twig { return tTurn(impl.TurnNot, e) }, 2980),
		"right":  deepCalls(func(e twig) twig { return tOp(impl.OpAdd, tInt(1), e) }, 1490),
		"left":   deepCalls(func(e twig) twig { return tOp(impl.OpAdd, e, tInt(1)) }, 1490),
		"or":     deepCalls(func(e twig) twig { return tOr(tNil(), e) }, 1490),
		"and":    deepCalls(func(e twig) twig { return tAnd(e, tNil()) }, 1490),
		"tables": deepCalls(func(e twig) twig { return tTable(tItem(e)) }, 990),
		"index":  deepCalls(func(e twig) twig { return tIndex(e, tInt(1)) }, 1490),
	} {
		if told := meaning(t, tree, impl.MaxFuel); !sameTold(told, impl.Told{State: impl.MachFuel}) {
			t.Error(name, told)
		}
	}
}

// There is memory enough: for more than any arena has room for.
func TestMeaningsThatNeedRoom(t *testing.T) {
	hoard := "local l = nil; local i = 0; while i < 1000 { i = i + 1; l = {l, i, x = {i}}; } "
	checkMeant(t, done(hoard+"print(#l); print(l[1][1][2]); print(l.x[1]);", "2 998 1000"))
	long := strings.Repeat("x", impl.MaxText)
	checkMeant(t, done(`local l = nil; local i = 0; while i < 900 { i = i + 1; l = {"`+long+`", l}; } print(#l[2][2][1]);`, "160"))
	if _, ok := ran(t, treeOf(t, hoard), impl.MaxSemi); ok {
		t.Error("no room lacks")
	}
}
