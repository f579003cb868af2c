package tests

import (
	"fmt"
	"strings"
	"testing"

	"loop.example/g00101/impl"
)

func times(n int, make func(i int) twig) []twig {
	var out []twig
	for i := range n {
		out = append(out, make(i))
	}
	return out
}

func locals(n int) []twig {
	return times(n, func(i int) twig { return tLocal("a", tNil()) })
}

func namesUpTo(n int) string {
	var names []string
	for i := range n {
		names = append(names, string(rune('a'+i)))
	}
	return strings.Join(names, " ")
}

// nodeOf is the number of the k-th node of a kind, from 1 on.
func nodeOf(t *testing.T, tree impl.Tree, kind int, k int) int {
	t.Helper()
	for n, knot := range tree.Nodes {
		if knot.Kind == kind {
			k--
			if k == 0 {
				return n
			}
		}
	}
	t.Fatal("there are not so many of", kindName(kind))
	return 0
}

// checkManyAt: refused with CodMany at the k-th node of a kind.
func checkManyAt(t *testing.T, top twig, kind int, k int) {
	t.Helper()
	tree := top.tree()
	checkFlaw(t, tree, impl.CodMany, nodeOf(t, tree, kind, k))
}

// checkNameAt: refused with CodName at the k-th node of a kind.
func checkNameAt(t *testing.T, top twig, kind int, k int) {
	t.Helper()
	tree := top.tree()
	checkFlaw(t, tree, impl.CodName, nodeOf(t, tree, kind, k))
}

// checkFits: not refused, and right.
func checkFits(t *testing.T, top twig) impl.Module {
	t.Helper()
	m := moduleOf(t, top.tree())
	checkRightModule(t, top.tree(), m)
	return m
}

func nowhere() twig { return tDo(tCall(tName("nowhere"))) }

func fnOf(params string, statements ...twig) twig { return tFn(params, tBlock(statements...)) }

func TestHowManyLocals(t *testing.T) {
	if m := checkFits(t, tBlock(locals(20)...)); m.Protos[0].Slots != 20 {
		t.Error("slots", m.Protos[0].Slots)
	}
	checkManyAt(t, tBlock(locals(21)...), impl.NLocal, 21)
	checkFlaw(t, tBlock(locals(21)...).tree(), impl.CodMany, 41)
	checkManyAt(t, tBlock(locals(25)...), impl.NLocal, 21)
	// Behind its Kid, and ahead of what comes next.
	checkNameAt(t, tBlock(append(locals(20), tLocal("b", tName("c")))...), impl.NName, 1)
	checkManyAt(t, tBlock(append(locals(21), nowhere())...), impl.NLocal, 21)
	checkManyAt(t, tBlock(append(locals(20), tLocal("b", fnOf("", locals(21)...)))...), impl.NLocal, 41)
	// Blocks give no slots back.
	checkFits(t, tBlock(append(locals(10), tIf(tNil(), tBlock(locals(5)...), tBlock(locals(5)...)))...))
	checkManyAt(t, tBlock(append(locals(10), tIf(tNil(), tBlock(locals(5)...), tBlock(locals(6)...)))...), impl.NLocal, 21)
	checkManyAt(t, tBlock(tWhile(tNil(), tBlock(locals(20)...)), tLocal("b", tNil())), impl.NLocal, 21)
	// Each function counts its own.
	inner := tReturn(fnOf("", locals(20)...))
	checkFits(t, tBlock(append(locals(20), inner, inner)...))
	checkManyAt(t, tBlock(append(locals(20), tReturn(fnOf("", locals(21)...)))...), impl.NLocal, 41)
}

func TestHowManyParameters(t *testing.T) {
	m := checkFits(t, tBlock(tReturn(fnOf(namesUpTo(20)))))
	if m.Protos[1].Params != 20 || m.Protos[1].Slots != 20 {
		t.Error("params", m.Protos[1])
	}
	checkManyAt(t, tBlock(tReturn(fnOf(namesUpTo(21)))), impl.NParam, 21)
	checkManyAt(t, tBlock(tReturn(fnOf(namesUpTo(23), nowhere()))), impl.NParam, 21)
	checkManyAt(t, tBlock(tReturn(fnOf(strings.Repeat("a ", 21)))), impl.NParam, 21)
	checkFits(t, tBlock(tReturn(fnOf(namesUpTo(12), locals(8)...))))
	checkManyAt(t, tBlock(tReturn(fnOf(namesUpTo(12), locals(9)...))), impl.NLocal, 9)
	checkManyAt(t, tBlock(tReturn(fnOf(namesUpTo(20), tLocal("a", tName("a"))))), impl.NLocal, 1)
	checkFits(t, tBlock(append(locals(20), tReturn(fnOf(namesUpTo(20))))...))
}

func emptyFns(n int) []twig {
	return times(n, func(i int) twig { return tItem(fnOf("")) })
}

// within is so many functions in one another.
func within(n int, inner ...twig) twig {
	f := fnOf("", inner...)
	for range n - 1 {
		f = fnOf("", tReturn(f))
	}
	return f
}

// The Top is one of them, and they are counted by their numbers: a function has a greater one than those within it.
func TestHowManyProtos(t *testing.T) {
	if m := checkFits(t, tBlock(tReturn(tTable(emptyFns(99)...)))); len(m.Protos) != 100 {
		t.Error("protos", len(m.Protos))
	}
	checkManyAt(t, tBlock(tReturn(tTable(emptyFns(100)...))), impl.NFn, 100)
	checkManyAt(t, tBlock(tReturn(tTable(emptyFns(120)...))), impl.NFn, 100)
	checkFits(t, tBlock(tReturn(within(99))))
	checkManyAt(t, tBlock(tReturn(within(100))), impl.NFn, 100)
	checkManyAt(t, tBlock(tReturn(within(101))), impl.NFn, 101)
	// Ahead of its own code: what is wrong within it is not come to.
	checkManyAt(t, tBlock(tReturn(within(100, nowhere()))), impl.NFn, 100)
	checkNameAt(t, tBlock(tReturn(within(99, nowhere()))), impl.NName, 1)
	checkManyAt(t, tBlock(tReturn(tTable(append(emptyFns(99), tItem(fnOf(namesUpTo(21), nowhere())))...))), impl.NFn, 100)
	checkManyAt(t, tBlock(tReturn(fnOf("", tReturn(tTable(emptyFns(99)...)), nowhere()))), impl.NFn, 100)
	checkFits(t, tBlock(tReturn(fnOf("", tReturn(tTable(emptyFns(98)...))))))
	// What stands ahead of it is.
	checkNameAt(t, tBlock(nowhere(), tReturn(tTable(emptyFns(100)...))), impl.NName, 1)
	checkNameAt(t, tBlock(tReturn(tTable(append(emptyFns(99), tItem(tName("nowhere")), tItem(fnOf("")))...))), impl.NName, 1)
}

func TestHowManyArguments(t *testing.T) {
	args := func(n int) []twig { return times(n, func(i int) twig { return tInt(i) }) }
	m := checkFits(t, tBlock(tDo(tCall(tName("print"), args(40)...))))
	if at := len(m.Protos[0].Code) - 4; m.Protos[0].Code[at] != (impl.Ins{Op: impl.OCall, A: 40}) {
		t.Error("call", m.Protos[0].Code)
	}
	checkManyAt(t, tBlock(tDo(tCall(tName("print"), args(41)...))), impl.NCall, 1)
	checkManyAt(t, tBlock(tReturn(tCall(tName("print"), args(60)...))), impl.NCall, 1)
	// Behind its Kids, and ahead of what comes next.
	checkNameAt(t, tBlock(tDo(tCall(tName("print"), append(args(41), tName("nowhere"))...))), impl.NName, 2)
	checkNameAt(t, tBlock(tDo(tCall(tName("nowhere"), args(41)...))), impl.NName, 1)
	checkManyAt(t, tBlock(tDo(tCall(tName("print"), args(41)...)), nowhere()), impl.NCall, 1)
	checkManyAt(t, tBlock(tDo(tCall(tName("print"), append(args(40), tCall(tNil(), args(41)...))...))), impl.NCall, 1)
	checkManyAt(t, tBlock(tDo(tCall(tCall(tNil(), args(41)...), args(41)...))), impl.NCall, 1)
	checkFits(t, tBlock(tDo(tCall(tCall(tNil(), args(40)...), args(40)...))))
}

func textItems(from int, to int) []twig {
	return times(to-from, func(i int) twig { return tItem(tText(fmt.Sprint("t", from+i))) })
}

func TestHowManyTexts(t *testing.T) {
	m := checkFits(t, tBlock(tReturn(tTable(textItems(0, 255)...))))
	if len(m.Texts) != 255 || m.Texts[0] != "t0" || m.Texts[254] != "t254" {
		t.Error("texts", m.Texts)
	}
	checkManyAt(t, tBlock(tReturn(tTable(textItems(0, 256)...))), impl.NText, 256)
	checkManyAt(t, tBlock(tReturn(tTable(textItems(0, 300)...))), impl.NText, 256)
	// Those that are there already are no more.
	checkFits(t, tBlock(tReturn(tTable(append(textItems(0, 255), textItems(0, 255)...)...))))
	checkManyAt(t, tBlock(tReturn(tTable(append(append(textItems(0, 255), textItems(0, 100)...), textItems(255, 260)...)...))), impl.NText, 356)
	// All functions share them, in the order of code; keys are some, too.
	halves := []twig{tItem(fnOf("", tReturn(tTable(textItems(0, 200)...)))), tItem(fnOf("", tReturn(tTable(textItems(100, 255)...))))}
	checkFits(t, tBlock(tReturn(tTable(halves...))))
	checkManyAt(t, tBlock(tReturn(tTable(append(halves, tPair(tText("k"), tNil()))...))), impl.NText, 356)
	checkManyAt(t, tBlock(tReturn(tTable(append(halves, tItem(tIndex(tNil(), tText("k"))))...))), impl.NText, 356)
	checkManyAt(t, tBlock(tReturn(tTable(append(textItems(0, 255), tItem(fnOf("", tReturn(tText("new")), nowhere())))...))), impl.NText, 256)
	checkNameAt(t, tBlock(tReturn(tTable(append(textItems(0, 255), tItem(tName("nowhere")), tItem(tText("new")))...))), impl.NName, 1)
}

func declared(n int) []twig {
	var out []twig
	for _, name := range strings.Fields(namesUpTo(n)) {
		out = append(out, tLocal(name, tNil()))
	}
	return out
}

// naming is the statements of a function that names these.
func naming(names string) []twig {
	var out []twig
	for _, name := range strings.Fields(names) {
		out = append(out, tDo(tCall(tName(name))))
	}
	return out
}

func TestHowManyUps(t *testing.T) {
	most, over := namesUpTo(12), namesUpTo(13)
	with := func(statements ...twig) twig { return tBlock(append(declared(15), statements...)...) }
	if m := checkFits(t, with(tReturn(fnOf("", naming(most+" "+most)...)))); len(m.Protos[1].Ups) != 12 {
		t.Error("ups", m.Protos[1].Ups)
	}
	checkManyAt(t, with(tReturn(fnOf("", naming(over)...))), impl.NFn, 1)
	checkManyAt(t, with(tReturn(fnOf("", append(naming(most), tSet("m", tNil()))...))), impl.NFn, 1)
	// Behind its own code, and ahead of what comes next.
	checkNameAt(t, with(tReturn(fnOf("", append(naming(over), nowhere())...))), impl.NName, 14)
	checkManyAt(t, with(tReturn(fnOf("", naming(over)...)), nowhere()), impl.NFn, 1)
	// The one within first; a function also has those of the functions within it.
	checkManyAt(t, with(tReturn(fnOf("", tReturn(fnOf("", naming(over)...)), nowhere()))), impl.NFn, 1)
	parts := fnOf("", tReturn(fnOf("", naming("a b c d e f g")...)), tReturn(fnOf("", naming("g h i j k l")...)))
	if m := checkFits(t, with(tReturn(parts))); len(m.Protos[3].Ups) != 12 || len(m.Protos[2].Ups) != 6 {
		t.Error("ups", m.Protos)
	}
	parts = fnOf("", tReturn(fnOf("", naming("a b c d e f g")...)), tReturn(fnOf("", naming("g h i j k l m")...)))
	checkManyAt(t, with(tReturn(parts)), impl.NFn, 3)
	parts = fnOf("", tReturn(fnOf("", naming("a b c d e f g")...)), tReturn(fnOf("", naming("g h i j k l m")...)), tReturn(tName("nowhere")))
	checkNameAt(t, with(tReturn(parts)), impl.NName, 15)
	// A function's own locals are none of them.
	checkFits(t, with(tReturn(fnOf("m n o", naming(namesUpTo(15))...))))
	checkManyAt(t, with(tReturn(fnOf("n o", naming(namesUpTo(15))...))), impl.NFn, 1)
}

// long is statements of just so many instructions, of 6 or more: a table's items have 4 each, turns one each.
func long(instructions int) twig {
	items := times((instructions-6)/4, func(i int) twig { return tItem(tNil()) })
	last := tNil()
	for range (instructions - 6) % 4 {
		last = tTurn(impl.TurnNot, last)
	}
	return tReturn(tTable(append(items, tItem(last))...))
}

func TestHowMuchCode(t *testing.T) {
	// ONil and OReturn stand behind all.
	for n := 3990; n <= 3998; n++ {
		m := checkFits(t, tBlock(long(n)))
		if len(m.Protos[0].Code) != n+2 {
			t.Error("code", len(m.Protos[0].Code), n)
		}
		m = checkFits(t, tBlock(tReturn(fnOf("", long(n)))))
		if len(m.Protos[1].Code) != n+2 {
			t.Error("code", len(m.Protos[1].Code), n)
		}
	}
	for n := 3999; n <= 4003; n++ {
		tree := tBlock(long(n)).tree()
		checkFlaw(t, tree, impl.CodMany, tree.Top)
		checkManyAt(t, tBlock(tReturn(fnOf("", long(n)))), impl.NFn, 1)
	}
	// Behind its own code, and ahead of what comes next.
	checkNameAt(t, tBlock(long(4200), nowhere()), impl.NName, 1)
	checkNameAt(t, tBlock(tReturn(fnOf("", long(4200), nowhere()))), impl.NName, 1)
	checkManyAt(t, tBlock(tReturn(fnOf("", long(4200))), nowhere()), impl.NFn, 1)
	checkManyAt(t, tBlock(tReturn(fnOf("", tReturn(fnOf("", long(4200))), nowhere()))), impl.NFn, 1)
	// A function's code is none of the code around it.
	checkFits(t, tBlock(tReturn(fnOf("", long(2400))), tReturn(fnOf("", long(2400)))))
	// (OFn and OReturn stand between.)
	checkFits(t, tBlock(long(2000), tReturn(fnOf("", long(1000))), long(1996)))
	tree := tBlock(long(2000), tReturn(fnOf("", long(1000))), long(1997)).tree()
	checkFlaw(t, tree, impl.CodMany, tree.Top)
	// The boxing of parameters is part of it.
	boxes := []twig{tReturn(fnOf("", naming("a b c")...))}
	checkFits(t, tBlock(tReturn(fnOf("a b c", append(boxes, long(3993))...))))
	checkManyAt(t, tBlock(tReturn(fnOf("a b c", append(boxes, long(3994))...))), impl.NFn, 2)
}

// snippet is a statement that is refused: with which code, and where, as the k-th node of a kind.
type snippet struct {
	name       string
	statement  twig
	code, kind int
	k          int
}

func snippets() []snippet {
	table := func(fields ...twig) twig { return tReturn(tTable(fields...)) }
	args := times(41, func(i int) twig { return tNil() })
	return []snippet{
		{"a name", tReturn(tName("nowhere")), impl.CodName, impl.NName, 1},
		{"a set name", tSet("nowhere", tNil()), impl.CodName, impl.NSet, 1},
		{"a set library function", tSet("print", tNil()), impl.CodName, impl.NSet, 1},
		{"locals", tReturn(fnOf("", locals(21)...)), impl.CodMany, impl.NLocal, 21},
		{"parameters", tReturn(fnOf(namesUpTo(21))), impl.CodMany, impl.NParam, 21},
		{"Protos", table(emptyFns(100)...), impl.CodMany, impl.NFn, 100},
		{"arguments", tDo(tCall(tNil(), args...)), impl.CodMany, impl.NCall, 1},
		{"texts", table(textItems(0, 256)...), impl.CodMany, impl.NText, 256},
		{"Ups", tReturn(fnOf("", append(declared(13), tReturn(fnOf("", naming(namesUpTo(13))...)))...)), impl.CodMany, impl.NFn, 1},
		{"code", tReturn(fnOf("", long(4100))), impl.CodMany, impl.NFn, 1},
	}
}

// Of any two refusals the first one in the order of code is told, beside each other and within one another.
func TestWhichRefusalComesFirst(t *testing.T) {
	for _, a := range snippets() {
		tree := tBlock(a.statement).tree()
		node := nodeOf(t, tree, a.kind, a.k)
		if !impl.TreeOk(tree) {
			t.Error(a.name, "is not a right tree")
		}
		checkFlaw(t, tree, a.code, node)
		for _, b := range snippets() {
			pair := tBlock(a.statement, b.statement).tree()
			if len(pair.Nodes) > impl.MaxNodes {
				continue
			}
			checkFlaw(t, pair, a.code, node)
			checkCompile(t, pair)
			checkCompile(t, tBlock(tIf(tNil(), tBlock(a.statement), tBlock(b.statement))).tree())
			checkCompile(t, tBlock(tReturn(fnOf("", a.statement, tLocal("f", fnOf("", b.statement))))).tree())
			checkCompile(t, tBlock(tLocal("f", fnOf("", a.statement)), b.statement).tree())
		}
	}
}

// The Top's own refusals are told at the Top, behind all others.
func TestTheTopIsLast(t *testing.T) {
	for _, a := range snippets() {
		tree := tBlock(a.statement, long(4000)).tree()
		behind := tBlock(long(4000), a.statement).tree()
		if len(tree.Nodes) > impl.MaxNodes {
			continue
		}
		checkFlaw(t, tree, a.code, nodeOf(t, tree, a.kind, a.k))
		checkFlaw(t, behind, a.code, nodeOf(t, behind, a.kind, a.k))
	}
}
