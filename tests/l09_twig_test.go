package tests

import (
	"fmt"
	"math/rand"
	"slices"
	"strings"
	"testing"

	"loop.example/g00101/impl"
)

// A twig is a node with its Kids in it: what a tree is, without numbers.
type twig struct {
	kind int
	text string
	i    int
	kids []twig
}

func tNil() twig                  { return twig{kind: impl.NNil} }
func tTrue() twig                 { return twig{kind: impl.NBool, i: 1} }
func tFalse() twig                { return twig{kind: impl.NBool} }
func tInt(i int) twig             { return twig{kind: impl.NInt, i: i} }
func tText(s string) twig         { return twig{kind: impl.NText, text: s} }
func tName(s string) twig         { return twig{kind: impl.NName, text: s} }
func tTable(fields ...twig) twig  { return twig{kind: impl.NTable, kids: fields} }
func tIndex(t, k twig) twig       { return twig{kind: impl.NIndex, kids: []twig{t, k}} }
func tOp(op int, a, b twig) twig  { return twig{kind: impl.NOp, i: op, kids: []twig{a, b}} }
func tTurn(turn int, e twig) twig { return twig{kind: impl.NTurn, i: turn, kids: []twig{e}} }
func tAnd(a, b twig) twig         { return twig{kind: impl.NAnd, kids: []twig{a, b}} }
func tOr(a, b twig) twig          { return twig{kind: impl.NOr, kids: []twig{a, b}} }
func tItem(e twig) twig           { return twig{kind: impl.NItem, kids: []twig{e}} }
func tPair(k, e twig) twig        { return twig{kind: impl.NPair, kids: []twig{k, e}} }
func tPut(t, k, e twig) twig      { return twig{kind: impl.NPut, kids: []twig{t, k, e}} }
func tWhile(e, block twig) twig   { return twig{kind: impl.NWhile, kids: []twig{e, block}} }
func tReturn(e twig) twig         { return twig{kind: impl.NReturn, kids: []twig{e}} }
func tDo(call twig) twig          { return twig{kind: impl.NDo, kids: []twig{call}} }
func tBlock(kids ...twig) twig    { return twig{kind: impl.NBlock, kids: kids} }

func tLocal(name string, e twig) twig {
	return twig{kind: impl.NLocal, text: name, kids: []twig{e}}
}

func tSet(name string, e twig) twig {
	return twig{kind: impl.NSet, text: name, kids: []twig{e}}
}

func tCall(f twig, args ...twig) twig {
	return twig{kind: impl.NCall, kids: append([]twig{f}, args...)}
}

func tIf(e twig, blocks ...twig) twig {
	return twig{kind: impl.NIf, kids: append([]twig{e}, blocks...)}
}

func tFn(params string, block twig) twig {
	var kids []twig
	for _, name := range strings.Fields(params) {
		kids = append(kids, twig{kind: impl.NParam, text: name})
	}
	return twig{kind: impl.NFn, kids: append(kids, block)}
}

// tree numbers a twig and all in it: those of its Kids, in order, ahead of itself.
func (w twig) tree() impl.Tree {
	var t impl.Tree
	t.Top = w.numberInto(&t)
	return t
}

func (w twig) numberInto(t *impl.Tree) int {
	var kids []int
	for _, kid := range w.kids {
		kids = append(kids, kid.numberInto(t))
	}
	t.Nodes = append(t.Nodes, impl.Knot{Kind: w.kind, Text: w.text, I: w.i, Kids: kids})
	return len(t.Nodes) - 1
}

// size is how many nodes it has.
func (w twig) size() int {
	n := 1
	for _, kid := range w.kids {
		n += kid.size()
	}
	return n
}

func kindName(kind int) string {
	names := []string{"?", "NNil", "NBool", "NInt", "NText", "NName", "NFn", "NTable", "NIndex", "NCall", "NOp", "NTurn", "NAnd", "NOr", "NLocal", "NSet", "NPut", "NIf", "NWhile", "NReturn", "NDo", "NBlock", "NParam", "NItem", "NPair"}
	if kind < 1 || kind >= len(names) {
		return fmt.Sprint("kind ", kind)
	}
	return names[kind]
}

// treeLines tells a tree, a line a node.
func treeLines(t impl.Tree) string {
	var b strings.Builder
	for i, k := range t.Nodes {
		fmt.Fprintf(&b, "%d: %s %q %d %v\n", i, kindName(k.Kind), k.Text, k.I, k.Kids)
	}
	fmt.Fprintf(&b, "Top %d\n", t.Top)
	return b.String()
}

func sameKnots(a, b impl.Knot) bool {
	return a.Kind == b.Kind && a.Text == b.Text && a.I == b.I && slices.Equal(a.Kids, b.Kids)
}

// sameTrees is asked where TreeSame itself is on trial.
func sameTrees(a, b impl.Tree) bool {
	return a.Top == b.Top && slices.EqualFunc(a.Nodes, b.Nodes, sameKnots)
}

// checkTree: Parse reads just this tree, and it is right.
func checkTree(t *testing.T, text string, want impl.Tree) {
	t.Helper()
	got, code, at := impl.Parse(text)
	if code != impl.ParDone || at != 0 {
		t.Errorf("%q: refused with %d at %d", text, code, at)
		return
	}
	if !sameTrees(got, want) {
		t.Errorf("%q is read as\n%swant\n%s", text, treeLines(got), treeLines(want))
	}
	if !impl.TreeOk(got) {
		t.Errorf("%q: what is read is not right:\n%s", text, treeLines(got))
	}
	for _, k := range got.Nodes {
		if sharesBytes(k.Text, text) {
			t.Errorf("%q: the node with %q shares memory with it", text, k.Text)
		}
	}
}

func checkTwig(t *testing.T, text string, statements ...twig) {
	t.Helper()
	checkTree(t, text, tBlock(statements...).tree())
}

// checkFault: Parse refuses the text, and answers no tree.
func checkFault(t *testing.T, text string, code int, at int) {
	t.Helper()
	got, gotCode, gotAt := impl.Parse(text)
	if gotCode != code || gotAt != at {
		t.Errorf("%q: %d at %d, want %d at %d", text, gotCode, gotAt, code, at)
	}
	if len(got.Nodes) != 0 || got.Top != 0 {
		t.Errorf("%q: refused, and there is a tree:\n%s", text, treeLines(got))
	}
}

// The generator of right trees. A gardener has so many nodes to give away, and goes so deep at most.
type gardener struct {
	*rand.Rand
	left int
}

func (g *gardener) name() string {
	for {
		name := someOf(g.Rand, "abcxyzXYZ", 1+g.Intn(impl.MaxName))
		if g.Intn(3) > 0 {
			name = name[:1]
		}
		if !slices.Contains(allWords(), name) {
			return name
		}
	}
}

func (g *gardener) quoted() string {
	switch g.Intn(8) {
	case 0:
		return someOf(g.Rand, printable(), impl.MaxText-g.Intn(2))
	case 1:
		return append(allWords(), allMarks()...)[g.Intn(33)]
	}
	return someOf(g.Rand, printable(), g.Intn(6))
}

func (g *gardener) number() int {
	return []int{0, 1, 9, 10, 123, 999999999999999, g.Intn(1000000000000000)}[g.Intn(7)]
}

func (g *gardener) plain() twig {
	switch g.Intn(6) {
	case 0:
		return tNil()
	case 1:
		return twig{kind: impl.NBool, i: g.Intn(2)}
	case 2:
		return tInt(g.number())
	case 3:
		return tText(g.quoted())
	}
	return tName(g.name())
}

func (g *gardener) some(deep int, make func(deep int) twig) []twig {
	var out []twig
	for g.left > 0 && g.Intn(3) > 0 {
		out = append(out, make(deep))
	}
	return out
}

func (g *gardener) expression(deep int) twig {
	g.left--
	if deep == 0 || g.left <= 0 {
		return g.plain()
	}
	e := func() twig { return g.expression(deep - 1) }
	switch g.Intn(12) {
	case 0:
		var names []string
		for range g.Intn(4) {
			names = append(names, g.name())
		}
		return tFn(strings.Join(names, " "), g.block(deep-1))
	case 1, 2:
		return tTable(g.some(deep-1, g.field)...)
	case 3, 4:
		return tIndex(e(), e())
	case 5, 6:
		return tCall(e(), g.some(deep-1, g.expression)...)
	case 7, 8:
		return tOp(1+g.Intn(10), e(), e())
	case 9:
		return tTurn(1+g.Intn(3), e())
	case 10:
		return tAnd(e(), e())
	}
	return tOr(e(), e())
}

func (g *gardener) field(deep int) twig {
	g.left--
	if g.Intn(2) == 0 {
		return tItem(g.expression(deep))
	}
	return tPair(g.expression(deep), g.expression(deep))
}

func (g *gardener) block(deep int) twig {
	g.left--
	return tBlock(g.some(max(deep, 0), g.statement)...)
}

func (g *gardener) statement(deep int) twig {
	g.left--
	e := func() twig { return g.expression(deep) }
	switch g.Intn(9) {
	case 0:
		return tLocal(g.name(), e())
	case 1:
		return tSet(g.name(), e())
	case 2:
		return tPut(e(), e(), e())
	case 3:
		if deep > 0 {
			return tIf(e(), g.block(deep-1))
		}
	case 4:
		if deep > 0 {
			return tIf(e(), g.block(deep-1), g.block(deep-1))
		}
	case 5:
		if deep > 0 {
			return tWhile(e(), g.block(deep-1))
		}
	case 6:
		return tReturn(e())
	}
	return tDo(tCall(e(), g.some(deep, g.expression)...))
}

// someTree is the Top of a right tree by chance, of not many more than so many nodes.
func someTree(r *rand.Rand, nodes int, deep int) twig {
	g := &gardener{Rand: r, left: nodes}
	var statements []twig
	for g.left > 0 {
		statements = append(statements, g.statement(deep))
	}
	return tBlock(statements...)
}
