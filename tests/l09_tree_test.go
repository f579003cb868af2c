package tests

import (
	"math/rand"
	"slices"
	"strings"
	"testing"

	"loop.example/g00101/impl"
)

func TestTreeConstants(t *testing.T) {
	kinds := []int{impl.NNil, impl.NBool, impl.NInt, impl.NText, impl.NName, impl.NFn, impl.NTable, impl.NIndex, impl.NCall, impl.NOp, impl.NTurn, impl.NAnd, impl.NOr, impl.NLocal, impl.NSet, impl.NPut, impl.NIf, impl.NWhile, impl.NReturn, impl.NDo, impl.NBlock, impl.NParam, impl.NItem, impl.NPair}
	ops := []int{impl.OpAdd, impl.OpSub, impl.OpMul, impl.OpDiv, impl.OpMod, impl.OpJoin, impl.OpEq, impl.OpNe, impl.OpLt, impl.OpLe}
	turns := []int{impl.TurnNeg, impl.TurnNot, impl.TurnLen}
	codes := []int{impl.ParLex, impl.ParWant, impl.ParDeep}
	for _, list := range [][]int{kinds, ops, turns, codes} {
		for i, n := range list {
			if n != i+1 {
				t.Error("constant", i+1, "is", n, "in", list)
			}
		}
	}
	if impl.MaxDepth != 30 || impl.MaxNodes != 3000 || impl.ParDone != 0 {
		t.Error("limits", impl.MaxDepth, impl.MaxNodes, impl.ParDone)
	}
}

// A tree whose numbers are written out.
func TestTreeByHand(t *testing.T) {
	want := impl.Tree{Top: 20, Nodes: []impl.Knot{
		{Kind: impl.NName, Text: "t"},
		{Kind: impl.NText, Text: "k"},
		{Kind: impl.NIndex, Kids: []int{0, 1}},
		{Kind: impl.NInt, I: 1},
		{Kind: impl.NName, Text: "f"},
		{Kind: impl.NInt, I: 2},
		{Kind: impl.NName, Text: "x"},
		{Kind: impl.NTurn, I: impl.TurnNeg, Kids: []int{6}},
		{Kind: impl.NCall, Kids: []int{4, 5, 7}},
		{Kind: impl.NText, Text: "s"},
		{Kind: impl.NOp, I: impl.OpJoin, Kids: []int{8, 9}},
		{Kind: impl.NPut, Kids: []int{2, 3, 10}},
		{Kind: impl.NBool, I: 1},
		{Kind: impl.NNil},
		{Kind: impl.NReturn, Kids: []int{13}},
		{Kind: impl.NBlock, Kids: []int{14}},
		{Kind: impl.NBlock},
		{Kind: impl.NIf, Kids: []int{12, 15, 16}},
		{Kind: impl.NBool},
		{Kind: impl.NReturn, Kids: []int{18}},
		{Kind: impl.NBlock, Kids: []int{11, 17, 19}},
	}}
	checkTree(t, "t.k[1] = f(2, -x) .. \"s\"; if true { return nil; } else { } return false;", want)
}

func TestEmptyTexts(t *testing.T) {
	only := impl.Tree{Nodes: []impl.Knot{{Kind: impl.NBlock}}}
	for _, text := range []string{"", " ", "\n\t ", "-- x = 1;", "--\n--\n", " -- ;"} {
		checkTree(t, text, only)
	}
}

// row is a text and its statements.
type row struct {
	text string
	want []twig
}

func rowOf(text string, want ...twig) row { return row{text, want} }

// valueRows have each expression of the document's table behind 'x ='.
func valueRows() []row {
	a, b, x := tName("a"), tName("b"), tName("x")
	one, two := tInt(1), tInt(2)
	values := []struct {
		text string
		want twig
	}{
		{"nil", tNil()},
		{"true", tTrue()},
		{"false", tFalse()},
		{"0", tInt(0)},
		{"999999999999999", tInt(999999999999999)},
		{`""`, tText("")},
		{`"a b"`, tText("a b")},
		{`"nil"`, tText("nil")},
		{`"("`, tText("(")},
		{`"--"`, tText("--")},
		{`"1"`, tText("1")},
		{`"` + strings.Repeat("~", impl.MaxText) + `"`, tText(strings.Repeat("~", impl.MaxText))},
		{"abcdefghijkl", tName("abcdefghijkl")},
		{"Nil", tName("Nil")},
		{"x", x},
		{"fn(){}", tFn("", tBlock())},
		{"fn(a){}", tFn("a", tBlock())},
		{"fn(a,b,a){a();b();}", tFn("a b a", tBlock(tDo(tCall(a)), tDo(tCall(b))))},
		{"fn(){return fn(x){};}", tFn("", tBlock(tReturn(tFn("x", tBlock()))))},
		{"fn(){}()", tCall(tFn("", tBlock()))},
		{"{}", tTable()},
		{"{1}", tTable(tItem(one))},
		{"{1,x}", tTable(tItem(one), tItem(x))},
		{"{x=1}", tTable(tPair(tText("x"), one))},
		{"{[x]=1}", tTable(tPair(x, one))},
		{"{[1]=x,a=b,2,b,[a]=nil}", tTable(tPair(one, x), tPair(tText("a"), b), tItem(two), tItem(b), tPair(a, tNil()))},
		{"{{},{{}}}", tTable(tItem(tTable()), tItem(tTable(tItem(tTable()))))},
		{"{1}[1]", tIndex(tTable(tItem(one)), one)},
		{"a[1]", tIndex(a, one)},
		{"a.b", tIndex(a, tText("b"))},
		{"a.b.x[b].a", tIndex(tIndex(tIndex(tIndex(a, tText("b")), tText("x")), b), tText("a"))},
		{"a[b[1]]", tIndex(a, tIndex(b, one))},
		{"1 . x", tIndex(one, tText("x"))},
		{`"s".x`, tIndex(tText("s"), tText("x"))},
		{"nil[nil]", tIndex(tNil(), tNil())},
		{"a()", tCall(a)},
		{"a(1)", tCall(a, one)},
		{"a(1,b,{})", tCall(a, one, b, tTable())},
		{"a(1)(2)()", tCall(tCall(tCall(a, one), two))},
		{"a.b(1).x[2]()", tCall(tIndex(tIndex(tCall(tIndex(a, tText("b")), one), tText("x")), two))},
		{"1()", tCall(one)},
		{"a(a(a()))", tCall(a, tCall(a, tCall(a)))},
		{"a or b", tOr(a, b)},
		{"a and b", tAnd(a, b)},
		{"-a", tTurn(impl.TurnNeg, a)},
		{"not a", tTurn(impl.TurnNot, a)},
		{"#a", tTurn(impl.TurnLen, a)},
		{"(a)", a},
		{"(((1)))", one},
		{"({})", tTable()},
		{"(a)(1)", tCall(a, one)},
		{"(a)[1]", tIndex(a, one)},
		{"(a).b", tIndex(a, tText("b"))},
		{"a((1))", tCall(a, one)},
	}
	var rows []row
	for _, v := range values {
		rows = append(rows, rowOf("x = "+v.text+";", tSet("x", v.want)))
	}
	for i, operator := range []string{"+", "-", "*", "/", "%", "..", "==", "~=", "<", "<="} {
		rows = append(rows, rowOf("x = a "+operator+" b;", tSet("x", tOp(i+1, a, b))))
	}
	return rows
}

// statementRows have each statement of the document's table.
func statementRows() []row {
	a, f, x, one := tName("a"), tName("f"), tName("x"), tInt(1)
	call := tDo(tCall(f))
	return []row{
		rowOf("local x = 1;", tLocal("x", one)),
		rowOf("local x = x;", tLocal("x", x)),
		rowOf("x = 1;", tSet("x", one)),
		rowOf("a[x] = 1;", tPut(a, x, one)),
		rowOf("a.x = 1;", tPut(a, tText("x"), one)),
		rowOf("a.x.f = 1;", tPut(tIndex(a, tText("x")), tText("f"), one)),
		rowOf("f()[1] = x;", tPut(tCall(f), one, x)),
		rowOf("{}.x = 1;", tPut(tTable(), tText("x"), one)),
		rowOf("\"a\"[1] = 1;", tPut(tText("a"), one, one)),
		rowOf("if x {}", tIf(x, tBlock())),
		rowOf("if x {f();}", tIf(x, tBlock(call))),
		rowOf("if x {} else {}", tIf(x, tBlock(), tBlock())),
		rowOf("if x {f();f();} else {f();}", tIf(x, tBlock(call, call), tBlock(call))),
		rowOf("if x {} f();", tIf(x, tBlock()), call),
		rowOf("if x {} else {} f();", tIf(x, tBlock(), tBlock()), call),
		rowOf("if {} {}", tIf(tTable(), tBlock())),
		rowOf("if fn(){} {}", tIf(tFn("", tBlock()), tBlock())),
		rowOf("if x { if a {} else {f();} }", tIf(x, tBlock(tIf(a, tBlock(), tBlock(call))))),
		rowOf("if x { if a {} } else {f();}", tIf(x, tBlock(tIf(a, tBlock())), tBlock(call))),
		rowOf("while x {}", tWhile(x, tBlock())),
		rowOf("while {1} {f();}", tWhile(tTable(tItem(one)), tBlock(call))),
		rowOf("while f() {while x {}}", tWhile(tCall(f), tBlock(tWhile(x, tBlock())))),
		rowOf("return x;", tReturn(x)),
		rowOf("return 1; return x;", tReturn(one), tReturn(x)),
		rowOf("f();", call),
		rowOf("f.x(1, a);", tDo(tCall(tIndex(f, tText("x")), one, a))),
		rowOf("f()();", tDo(tCall(tCall(f)))),
		rowOf("1();", tDo(tCall(one))),
		rowOf("{}();", tDo(tCall(tTable()))),
		rowOf("fn(){}();", tDo(tCall(tFn("", tBlock())))),
		rowOf("nil();", tDo(tCall(tNil()))),
	}
}

func allRows() []row {
	return append(valueRows(), statementRows()...)
}

func TestRowsOfTheTable(t *testing.T) {
	seen := map[int]bool{}
	for _, r := range allRows() {
		checkTwig(t, r.text, r.want...)
		for _, k := range tBlock(r.want...).tree().Nodes {
			seen[k.Kind] = true
		}
	}
	for kind := impl.NNil; kind <= impl.NPair; kind++ {
		if !seen[kind] {
			t.Error("no row has", kindName(kind))
		}
	}
}

// Each row in the blocks of each statement that has some, and in a function, and one behind the other.
func TestRowsInRows(t *testing.T) {
	x, call := tName("x"), tDo(tCall(tName("f")))
	for _, r := range allRows() {
		in := tBlock(r.want...)
		checkTwig(t, "if x {"+r.text+"}", tIf(x, in))
		checkTwig(t, "if x {"+r.text+"}else{"+r.text+"}", tIf(x, in, in))
		checkTwig(t, "if x {}else{"+r.text+"}f();", tIf(x, tBlock(), in), call)
		checkTwig(t, "while x{f();"+r.text+"}", tWhile(x, tBlock(append([]twig{call}, r.want...)...)))
		checkTwig(t, "return fn(x,f){"+r.text+"};", tReturn(tFn("x f", in)))
		checkTwig(t, "f(fn(){"+r.text+"}, x);", tDo(tCall(tName("f"), tFn("", in), x)))
		checkTwig(t, "local x={fn(){"+r.text+"}};", tLocal("x", tTable(tItem(tFn("", in)))))
		for _, s := range allRows() {
			checkTwig(t, r.text+" "+s.text, append(slices.Clone(r.want), s.want...)...)
		}
	}
}

// What stands between the tokens tells nothing.
func TestGapsInTexts(t *testing.T) {
	for _, r := range allRows() {
		list := tokensThere(t, r.text)
		for _, g := range gaps() {
			text, _ := written(list, func(int) string { return g.text })
			if len(text) <= impl.MaxSource {
				checkTwig(t, g.text+text+" "+g.text, r.want...)
			}
		}
	}
}

// The numbers: all nodes of the Kids, in order, one behind the other, and then the node.
func TestNumbersOfReadNodes(t *testing.T) {
	r := rand.New(rand.NewSource(91))
	for range 300 {
		text, _ := impl.Print(someTree(r, 1+r.Intn(60), 4).tree())
		tree, code, _ := impl.Parse(text)
		if code != impl.ParDone {
			continue
		}
		next := 0
		var walk func(n int)
		walk = func(n int) {
			for _, kid := range tree.Nodes[n].Kids {
				walk(kid)
			}
			if n != next {
				t.Fatalf("%q: the node %d should have the number %d\n%s", text, n, next, treeLines(tree))
			}
			next++
		}
		walk(tree.Top)
		if next != len(tree.Nodes) || tree.Top != next-1 {
			t.Fatalf("%q: %d nodes are in the tree, %d in the list", text, next, len(tree.Nodes))
		}
	}
}

// A text of MaxSource bytes has as many nodes as a tree may have: no text has more.
func TestTextOfMostNodes(t *testing.T) {
	e := tName("x")
	text := "x"
	for len(text) < impl.MaxSource-3 {
		text += ".a"
		e = tIndex(e, tText("a"))
	}
	text += "();"
	if len(text) == impl.MaxSource-1 {
		text = " " + text
	}
	tree := tBlock(tDo(tCall(e))).tree()
	if len(text) != impl.MaxSource || len(tree.Nodes) != impl.MaxNodes {
		t.Fatal("bytes", len(text), "nodes", len(tree.Nodes))
	}
	checkTree(t, text, tree)
	checkFault(t, text+" ", impl.ParLex, 0)
	items := "x={1" + strings.Repeat(",1", 1497) + "};"
	got, code, _ := impl.Parse(items)
	if code != impl.ParDone || len(items) != 3000 || len(got.Nodes) != 2999 || !impl.TreeOk(got) {
		t.Error("items", len(items), code, len(got.Nodes))
	}
}
