package tests

import (
	"math"
	"math/rand"
	"regexp"
	"slices"
	"strings"
	"testing"

	"loop.example/g00101/impl"
)

// The model of right trees: a letter a kind, and of each kind what the letters of its Kids may be.

const kindLetters = "?nbitafTxcouAOlsPIwrdBpmk"

var kidLetters = kidPatterns()

func kidPatterns() map[int]*regexp.Regexp {
	patterns := map[int]*regexp.Regexp{}
	const e = "[nbitafTxcouAO]"
	for kinds, pattern := range map[[6]int]string{
		{impl.NNil, impl.NBool, impl.NInt, impl.NText, impl.NName, impl.NParam}: "",
		{impl.NFn}:    "p*B",
		{impl.NTable}: "[mk]*",
		{impl.NCall}:  e + "+",
		{impl.NTurn, impl.NLocal, impl.NSet, impl.NReturn, impl.NItem}: e,
		{impl.NIndex, impl.NOp, impl.NAnd, impl.NOr, impl.NPair}:       e + e,
		{impl.NPut}:   e + e + e,
		{impl.NIf}:    e + "BB?",
		{impl.NWhile}: e + "B",
		{impl.NDo}:    "c",
		{impl.NBlock}: "[lsPIwrd]*",
	} {
		for _, kind := range kinds {
			patterns[kind] = regexp.MustCompile("^" + pattern + "$")
		}
	}
	delete(patterns, 0)
	return patterns
}

func letterOf(kind int) string {
	if kind < 1 || kind >= len(kindLetters) {
		return "?"
	}
	return kindLetters[kind : kind+1]
}

var (
	rightName = regexp.MustCompile("^[a-zA-Z]{1,12}$")
	rightText = regexp.MustCompile("^[ !#-~]{0,160}$")
)

func isRightKnot(t impl.Tree, k impl.Knot) bool {
	letters := ""
	for _, kid := range k.Kids {
		letters += letterOf(t.Nodes[kid].Kind)
	}
	pattern := kidLetters[k.Kind]
	if pattern == nil || !pattern.MatchString(letters) {
		return false
	}
	textIsRight, numberIsRight := k.Text == "", k.I == 0
	switch k.Kind {
	case impl.NText:
		textIsRight = rightText.MatchString(k.Text) && !strings.Contains(k.Text, "\n")
	case impl.NName, impl.NParam, impl.NLocal, impl.NSet:
		textIsRight = rightName.MatchString(k.Text) && !slices.Contains(allWords(), k.Text)
	case impl.NBool:
		numberIsRight = slices.Contains([]int{0, 1}, k.I)
	case impl.NInt:
		numberIsRight = k.I >= 0 && k.I < 1000000000000000
	case impl.NOp:
		numberIsRight = slices.Contains([]int{1, 2, 3, 4, 5, 6, 7, 8, 9, 10}, k.I)
	case impl.NTurn:
		numberIsRight = slices.Contains([]int{1, 2, 3}, k.I)
	}
	return textIsRight && numberIsRight
}

// modelTreeOk goes from the Top down, and counts: of each node those of the Kids, in order, and then itself.
func modelTreeOk(t impl.Tree) bool {
	if len(t.Nodes) == 0 || len(t.Nodes) > 3000 || t.Top != len(t.Nodes)-1 || t.Nodes[t.Top].Kind != impl.NBlock {
		return false
	}
	next := 0
	var walk func(n int) bool
	walk = func(n int) bool {
		for _, kid := range t.Nodes[n].Kids {
			// A Kid that does not stand ahead would be gone down to for ever.
			if kid < 0 || kid >= n || !walk(kid) {
				return false
			}
		}
		next++
		return n == next-1 && isRightKnot(t, t.Nodes[n])
	}
	return walk(t.Top) && next == len(t.Nodes)
}

// checkRight: TreeOk answers what is wanted, and so does the model; Print answers at right trees alone.
func checkRight(t *testing.T, name string, tree impl.Tree, want bool) {
	t.Helper()
	if impl.TreeOk(tree) != want {
		t.Errorf("%s: right is %v, want %v\n%s", name, !want, want, treeLines(tree))
	}
	text, ok := impl.Print(tree)
	if ok != want || !ok && text != "" {
		t.Errorf("%s: printed as %q, %v", name, text, ok)
	}
}

func checkByModel(t *testing.T, name string, tree impl.Tree) bool {
	t.Helper()
	want := modelTreeOk(tree)
	checkRight(t, name, tree, want)
	return want
}

// broad has nodes of all kinds.
func broad() twig {
	a, f, x := tName("a"), tName("f"), tName("x")
	return tBlock(
		tLocal("x", tFn("a b", tBlock(tReturn(tOp(impl.OpAdd, a, tInt(7)))))),
		tSet("x", tTable(tItem(tNil()), tPair(tText("k"), tTrue()), tItem(tFalse()))),
		tPut(x, tIndex(a, tInt(1)), tTurn(impl.TurnLen, x)),
		tIf(tAnd(a, x), tBlock(tDo(tCall(f, a, x))), tBlock()),
		tIf(tOr(a, x), tBlock()),
		tWhile(x, tBlock(tDo(tCall(f)), tReturn(tNil()))),
	)
}

// cloneTree shares nothing with the tree.
func cloneTree(t impl.Tree) impl.Tree {
	out := impl.Tree{Nodes: slices.Clone(t.Nodes), Top: t.Top}
	for i := range out.Nodes {
		out.Nodes[i].Kids = slices.Clone(out.Nodes[i].Kids)
	}
	return out
}

// firstOf is the number of the first node of a kind.
func firstOf(t impl.Tree, kind int) int {
	return slices.IndexFunc(t.Nodes, func(k impl.Knot) bool { return k.Kind == kind })
}

func TestRightTrees(t *testing.T) {
	checkRight(t, "one of each kind", broad().tree(), true)
	for kind := impl.NNil; kind <= impl.NPair; kind++ {
		if firstOf(broad().tree(), kind) < 0 {
			t.Error("no node is an", kindName(kind))
		}
	}
	for _, r := range allRows() {
		checkRight(t, r.text, tBlock(r.want...).tree(), true)
	}
	checkRight(t, "nothing but the Top", tBlock().tree(), true)
	r := rand.New(rand.NewSource(92))
	for range 300 {
		w := someTree(r, 1+r.Intn(80), 1+r.Intn(8))
		if !checkByModel(t, "by chance", w.tree()) {
			t.Error("a tree that was made is not right")
		}
	}
}

func TestTreesOfOneFault(t *testing.T) {
	tests := []struct {
		name string
		kind int
		turn func(k *impl.Knot)
	}{
		{"no kind", impl.NNil, func(k *impl.Knot) { k.Kind = 0 }},
		{"a kind below", impl.NNil, func(k *impl.Knot) { k.Kind = -1 }},
		{"a kind above", impl.NNil, func(k *impl.Knot) { k.Kind = 25 }},
		{"a number of nothing", impl.NNil, func(k *impl.Knot) { k.I = 1 }},
		{"a text of nothing", impl.NNil, func(k *impl.Knot) { k.Text = "nil" }},
		{"a bool of 2", impl.NBool, func(k *impl.Knot) { k.I = 2 }},
		{"a bool of -1", impl.NBool, func(k *impl.Knot) { k.I = -1 }},
		{"a bool's text", impl.NBool, func(k *impl.Knot) { k.Text = "true" }},
		{"a number below 0", impl.NInt, func(k *impl.Knot) { k.I = -1 }},
		{"a number too great", impl.NInt, func(k *impl.Knot) { k.I = 1000000000000000 }},
		{"the least number", impl.NInt, func(k *impl.Knot) { k.I = math.MinInt }},
		{"a number's text", impl.NInt, func(k *impl.Knot) { k.Text = "7" }},
		{"a text's number", impl.NText, func(k *impl.Knot) { k.I = 1 }},
		{"a text too long", impl.NText, func(k *impl.Knot) { k.Text = strings.Repeat("a", impl.MaxText+1) }},
		{"a text with a quotation mark", impl.NText, func(k *impl.Knot) { k.Text = "a\"b" }},
		{"a text with a byte 10", impl.NText, func(k *impl.Knot) { k.Text = "\n" }},
		{"a text with a byte 10 at its end", impl.NText, func(k *impl.Knot) { k.Text = "a\n" }},
		{"a text with a byte 31", impl.NText, func(k *impl.Knot) { k.Text = "\x1f" }},
		{"a text with a byte 127", impl.NText, func(k *impl.Knot) { k.Text = "a\x7f" }},
		{"a text with a byte 128", impl.NText, func(k *impl.Knot) { k.Text = "\x80" }},
		{"a text with a long rune", impl.NText, func(k *impl.Knot) { k.Text = "é" }},
		{"a name of nothing", impl.NName, func(k *impl.Knot) { k.Text = "" }},
		{"a name of a word", impl.NName, func(k *impl.Knot) { k.Text = "while" }},
		{"a name too long", impl.NName, func(k *impl.Knot) { k.Text = "abcdefghijklm" }},
		{"a name with a digit", impl.NName, func(k *impl.Knot) { k.Text = "a1" }},
		{"a name with a blank", impl.NName, func(k *impl.Knot) { k.Text = "a " }},
		{"a name with a long rune", impl.NName, func(k *impl.Knot) { k.Text = "é" }},
		{"a name with a '_'", impl.NName, func(k *impl.Knot) { k.Text = "a_b" }},
		{"a name's number", impl.NName, func(k *impl.Knot) { k.I = 1 }},
		{"a param of nothing", impl.NParam, func(k *impl.Knot) { k.Text = "" }},
		{"a param of a word", impl.NParam, func(k *impl.Knot) { k.Text = "fn" }},
		{"a param's number", impl.NParam, func(k *impl.Knot) { k.I = 1 }},
		{"a local of nothing", impl.NLocal, func(k *impl.Knot) { k.Text = "" }},
		{"a local of a word", impl.NLocal, func(k *impl.Knot) { k.Text = "local" }},
		{"a local too long", impl.NLocal, func(k *impl.Knot) { k.Text = "abcdefghijklm" }},
		{"a set of nothing", impl.NSet, func(k *impl.Knot) { k.Text = "" }},
		{"a set of a word", impl.NSet, func(k *impl.Knot) { k.Text = "nil" }},
		{"a set's number", impl.NSet, func(k *impl.Knot) { k.I = 2 }},
		{"an op of 0", impl.NOp, func(k *impl.Knot) { k.I = 0 }},
		{"an op of 11", impl.NOp, func(k *impl.Knot) { k.I = 11 }},
		{"an op of -1", impl.NOp, func(k *impl.Knot) { k.I = -1 }},
		{"an op's text", impl.NOp, func(k *impl.Knot) { k.Text = "+" }},
		{"a turn of 0", impl.NTurn, func(k *impl.Knot) { k.I = 0 }},
		{"a turn of 4", impl.NTurn, func(k *impl.Knot) { k.I = 4 }},
		{"an and's number", impl.NAnd, func(k *impl.Knot) { k.I = 1 }},
		{"an or's number", impl.NOr, func(k *impl.Knot) { k.I = 1 }},
		{"a put's text", impl.NPut, func(k *impl.Knot) { k.Text = "x" }},
		{"a block's text", impl.NBlock, func(k *impl.Knot) { k.Text = "x" }},
		{"a block's number", impl.NBlock, func(k *impl.Knot) { k.I = 1 }},
		{"a call's number", impl.NCall, func(k *impl.Knot) { k.I = 1 }},
		{"an item's text", impl.NItem, func(k *impl.Knot) { k.Text = "a" }},
		{"a pair's text", impl.NPair, func(k *impl.Knot) { k.Text = "a" }},
		{"Kids in another order", impl.NAnd, func(k *impl.Knot) { slices.Reverse(k.Kids) }},
		{"a Kid twice", impl.NAnd, func(k *impl.Knot) { k.Kids[1] = k.Kids[0] }},
		{"a Kid too few", impl.NAnd, func(k *impl.Knot) { k.Kids = k.Kids[:1] }},
		{"the first Kid is gone", impl.NAnd, func(k *impl.Knot) { k.Kids = k.Kids[1:] }},
		{"no Kids", impl.NAnd, func(k *impl.Knot) { k.Kids = nil }},
		{"a Kid too many", impl.NTurn, func(k *impl.Knot) { k.Kids = append(k.Kids, k.Kids[0]) }},
		{"a Kid that is another one's", impl.NTurn, func(k *impl.Knot) { k.Kids[0]-- }},
		{"a Kid below 0", impl.NTurn, func(k *impl.Knot) { k.Kids[0] = -1 }},
		{"a Kid far above", impl.NTurn, func(k *impl.Knot) { k.Kids[0] = math.MaxInt }},
		{"a Kid far below", impl.NTurn, func(k *impl.Knot) { k.Kids[0] = math.MinInt }},
		{"itself as its Kid", impl.NTurn, func(k *impl.Knot) { k.Kids[0]++ }},
		{"a Kid behind it", impl.NTurn, func(k *impl.Knot) { k.Kids[0] += 2 }},
		{"a Kid where there is none", impl.NNil, func(k *impl.Knot) { k.Kids = []int{0} }},
		{"a function without a block", impl.NFn, func(k *impl.Knot) { k.Kids = k.Kids[:2] }},
	}
	for _, test := range tests {
		tree := broad().tree()
		test.turn(&tree.Nodes[firstOf(tree, test.kind)])
		checkRight(t, test.name, tree, false)
		if modelTreeOk(tree) {
			t.Error(test.name, "is right in the model")
		}
	}
	for _, w := range []twig{tName("f"), tNil(), tIndex(tName("f"), tInt(1)), tOp(impl.OpAdd, tCall(tName("f")), tInt(1))} {
		checkRight(t, "an NDo of no call", tBlock(tDo(w)).tree(), false)
		checkRight(t, "an NReturn of no call", tBlock(tReturn(w)).tree(), true)
	}
}

// A node for one of another kind, with all else as it was.
func TestKindsForOthers(t *testing.T) {
	tree := broad().tree()
	rights := 0
	for n := range tree.Nodes {
		for kind := -1; kind <= 26; kind++ {
			turned := cloneTree(tree)
			turned.Nodes[n].Kind = kind
			if checkByModel(t, kindName(kind), turned) {
				rights++
			}
		}
	}
	// An NDo is an NReturn, too, an NAnd an NOr, an NIndex an NPair ..: but most are not.
	if rights < len(tree.Nodes) || rights > 3*len(tree.Nodes) {
		t.Error("right:", rights, "of", len(tree.Nodes))
	}
}

// Each node with texts and numbers at their edges.
func TestTextsAndNumbersOfNodes(t *testing.T) {
	texts := []string{"", "x", "if", "nil", "If", "abcdefghijkl", "abcdefghijklm", "a1", "a b", "é", "\"", " ", "~", "\x1f", "\x7f", "\x80", "\xff", "\n", "a\n", "Z", "@", "[", "`", "{", strings.Repeat("a", 160), strings.Repeat("a", 161), strings.Repeat("é", 80)}
	numbers := []int{math.MinInt, -1, 0, 1, 2, 3, 4, 9, 10, 11, 999999999999999, 1000000000000000, math.MaxInt}
	tree := broad().tree()
	for n := range tree.Nodes {
		for _, text := range texts {
			turned := cloneTree(tree)
			turned.Nodes[n].Text = text
			checkByModel(t, "a text", turned)
		}
		for _, i := range numbers {
			turned := cloneTree(tree)
			turned.Nodes[n].I = i
			checkByModel(t, "a number", turned)
		}
	}
}

// Each Kid with each other number; Kids that are gone, doubled or exchanged; nodes that are gone, doubled or exchanged.
func TestNumbersOfKids(t *testing.T) {
	tree := broad().tree()
	end := len(tree.Nodes)
	for n, knot := range tree.Nodes {
		for at := range knot.Kids {
			for kid := -2; kid < end+2; kid++ {
				turned := cloneTree(tree)
				turned.Nodes[n].Kids[at] = kid
				checkRight(t, "another Kid", turned, kid == knot.Kids[at])
			}
			turned := cloneTree(tree)
			turned.Nodes[n].Kids = slices.Delete(turned.Nodes[n].Kids, at, at+1)
			checkRight(t, "a Kid is gone", turned, false)
			for kid := -1; kid <= end; kid++ {
				turned := cloneTree(tree)
				turned.Nodes[n].Kids = slices.Insert(turned.Nodes[n].Kids, at, kid)
				checkRight(t, "a Kid too many", turned, false)
			}
		}
		for other := range n {
			turned := cloneTree(tree)
			turned.Nodes[n], turned.Nodes[other] = turned.Nodes[other], turned.Nodes[n]
			checkByModel(t, "exchanged", turned)
		}
		turned := cloneTree(tree)
		turned.Nodes = slices.Delete(turned.Nodes, n, n+1)
		turned.Top--
		checkByModel(t, "a node is gone", turned)
		turned = cloneTree(tree)
		turned.Nodes = slices.Insert(turned.Nodes, n, impl.Knot{Kind: impl.NNil})
		turned.Top++
		checkByModel(t, "a node that is nobody's", turned)
	}
}

func TestTops(t *testing.T) {
	tree := broad().tree()
	for top := -2; top <= len(tree.Nodes)+1; top++ {
		turned := cloneTree(tree)
		turned.Top = top
		checkRight(t, "a Top", turned, top == len(tree.Nodes)-1)
	}
	for _, top := range []int{math.MinInt, math.MaxInt} {
		turned := cloneTree(tree)
		turned.Top = top
		checkRight(t, "a Top far away", turned, false)
	}
	for _, w := range []twig{tNil(), tCall(tName("f")), tReturn(tNil()), tDo(tCall(tName("f"))), tItem(tNil()), {kind: impl.NParam, text: "x"}} {
		checkRight(t, "a Top that is no block", w.tree(), false)
	}
	checkRight(t, "no node", impl.Tree{}, false)
	checkRight(t, "no node, another Top", impl.Tree{Top: -1}, false)
	two := impl.Tree{Nodes: []impl.Knot{{Kind: impl.NBlock}, {Kind: impl.NBlock}}, Top: 1}
	checkRight(t, "a block beside the Top", two, false)
	two.Nodes[1].Kids = []int{0}
	checkRight(t, "a block as a statement", two, false)
	around := impl.Tree{Nodes: []impl.Knot{{Kind: impl.NBlock, Kids: []int{1}}, {Kind: impl.NBlock, Kids: []int{0}}}, Top: 1}
	checkRight(t, "blocks in a circle", around, false)
	shared := impl.Tree{Nodes: []impl.Knot{{Kind: impl.NName, Text: "f"}, {Kind: impl.NCall, Kids: []int{0}}, {Kind: impl.NDo, Kids: []int{1}}, {Kind: impl.NDo, Kids: []int{1}}, {Kind: impl.NBlock, Kids: []int{2, 3}}}, Top: 4}
	checkRight(t, "a Kid of two", shared, false)
}

// standIn is a twig of each kind, right in itself.
func standIn(kind int) twig {
	x := tName("x")
	all := []twig{{}, tNil(), tTrue(), tInt(1), tText("s"), x, tFn("", tBlock()), tTable(), tIndex(x, x), tCall(x), tOp(1, x, x), tTurn(1, x), tAnd(x, x), tOr(x, x), tLocal("x", x), tSet("x", x), tPut(x, x, x), tIf(x, tBlock()), tWhile(x, tBlock()), tReturn(x), tDo(tCall(x)), tBlock(), {kind: impl.NParam, text: "x"}, tItem(x), tPair(x, x)}
	return all[kind]
}

// framed is a twig where one of its kind may stand.
func framed(w twig) twig {
	switch w.kind {
	case impl.NLocal, impl.NSet, impl.NPut, impl.NIf, impl.NWhile, impl.NReturn, impl.NDo:
		return tBlock(w)
	case impl.NBlock:
		return tBlock(tWhile(tNil(), w))
	case impl.NParam:
		return tBlock(tReturn(twig{kind: impl.NFn, kids: []twig{w, tBlock()}}))
	case impl.NItem, impl.NPair:
		return tBlock(tReturn(tTable(w)))
	}
	return tBlock(tReturn(w))
}

// A node of each kind with Kids of each kinds, three at most.
func TestKidsOfEachKind(t *testing.T) {
	for kind := impl.NNil; kind <= impl.NPair; kind++ {
		w := standIn(kind)
		if !modelTreeOk(framed(w).tree()) {
			t.Fatal("not right in its frame:", kindName(kind))
		}
		rights := 0
		try := func(kids ...int) {
			w.kids = nil
			for _, kid := range kids {
				w.kids = append(w.kids, standIn(kid))
			}
			if checkByModel(t, kindName(kind), framed(w).tree()) {
				rights++
			}
		}
		try()
		for one := 1; one <= impl.NPair; one++ {
			try(one)
			for two := 1; two <= impl.NPair; two++ {
				try(one, two)
				for three := 1; three <= impl.NPair; three += 1 + 2*(one+two)%5 {
					try(one, two, three)
				}
			}
		}
		if rights == 0 {
			t.Error("never right:", kindName(kind))
		}
	}
}

// many is a right tree of just so many nodes, of 4 or more.
func many(nodes int) impl.Tree {
	var statements []twig
	left := nodes - 1
	if left%2 == 1 {
		statements = append(statements, tDo(tCall(tName("f"))))
		left -= 3
	}
	for ; left > 0; left -= 2 {
		statements = append(statements, tReturn(tNil()))
	}
	return tBlock(statements...).tree()
}

func TestHowManyNodes(t *testing.T) {
	for _, nodes := range []int{4, 5, 100, impl.MaxNodes - 1, impl.MaxNodes, impl.MaxNodes + 1, impl.MaxNodes + 2} {
		tree := many(nodes)
		if len(tree.Nodes) != nodes {
			t.Fatal("nodes", len(tree.Nodes), nodes)
		}
		if got := impl.TreeOk(tree); got != (nodes <= impl.MaxNodes) {
			t.Error("of", nodes, "nodes:", got)
		}
		if _, ok := impl.Print(tree); ok != (nodes <= impl.MaxNodes) {
			t.Error("of", nodes, "nodes, printed:", ok)
		}
	}
	// No node of a right tree is too deep in it.
	e := tName("x")
	for e.size() < impl.MaxNodes-2 {
		e = tTurn(impl.TurnNot, e)
	}
	tree := tBlock(tReturn(e)).tree()
	text, ok := impl.Print(tree)
	if !impl.TreeOk(tree) || !ok || len(tree.Nodes) != impl.MaxNodes {
		t.Error("turns in one another", ok, len(tree.Nodes))
	}
	if want := "return " + strings.Repeat("( not ", impl.MaxNodes-3) + "x" + strings.Repeat(" )", impl.MaxNodes-3) + " ;\n"; text != want {
		t.Error("turns in one another are not printed as they are")
	}
}

// Trees of nodes by chance, most of them wrong.
func TestTreesByChance(t *testing.T) {
	r := rand.New(rand.NewSource(93))
	rights := 0
	for range 40000 {
		var tree impl.Tree
		var left []int
		for range 1 + r.Intn(5) {
			kids := left[len(left)-r.Intn(min(len(left), 3)+1):]
			if r.Intn(3) == 0 {
				kids = left
			}
			knot := impl.Knot{Kind: 1 + r.Intn(24), Kids: slices.Clone(kids)}
			left = append(left[:len(left)-len(kids)], len(tree.Nodes))
			switch knot.Kind {
			case impl.NName, impl.NParam, impl.NLocal, impl.NSet:
				knot.Text = "x"
			case impl.NOp, impl.NTurn:
				knot.I = 1
			}
			tree.Nodes = append(tree.Nodes, knot)
		}
		tree.Top = len(tree.Nodes)
		tree.Nodes = append(tree.Nodes, impl.Knot{Kind: impl.NBlock, Kids: slices.Clone(left)})
		if checkByModel(t, "by chance", tree) {
			rights++
		}
	}
	if rights < 50 {
		t.Error("right:", rights)
	}
}
