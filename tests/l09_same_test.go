package tests

import (
	"fmt"
	"math"
	"math/rand"
	"slices"
	"testing"
	"unsafe"

	"loop.example/g00101/impl"
)

func checkTreeSame(t *testing.T, name string, a, b impl.Tree, want bool) {
	t.Helper()
	if impl.TreeSame(a, b) != want || impl.TreeSame(b, a) != want {
		t.Errorf("%s: the same is %v, want %v\n%s\n%s", name, !want, want, treeLines(a), treeLines(b))
	}
}

// oneFieldTurned are trees that differ from a tree in one number or text, or in how many there are.
func oneFieldTurned(tree impl.Tree) map[string]impl.Tree {
	out := map[string]impl.Tree{}
	turn := func(name string, do func(t *impl.Tree)) {
		turned := cloneTree(tree)
		do(&turned)
		out[name] = turned
	}
	turn("Top", func(t *impl.Tree) { t.Top++ })
	turn("Top below", func(t *impl.Tree) { t.Top = -1 })
	turn("a node more", func(t *impl.Tree) { t.Nodes = append(t.Nodes, impl.Knot{}) })
	turn("a node less", func(t *impl.Tree) { t.Nodes = t.Nodes[:len(t.Nodes)-1] })
	turn("the first node is gone", func(t *impl.Tree) { t.Nodes = t.Nodes[1:] })
	for n, knot := range tree.Nodes {
		at := fmt.Sprint(n)
		turn("Kind "+at, func(t *impl.Tree) { t.Nodes[n].Kind++ })
		turn("I "+at, func(t *impl.Tree) { t.Nodes[n].I-- })
		turn("Text "+at, func(t *impl.Tree) { t.Nodes[n].Text += " " })
		turn("Text ahead "+at, func(t *impl.Tree) { t.Nodes[n].Text = "a" + t.Nodes[n].Text })
		turn("a Kid more "+at, func(t *impl.Tree) { t.Nodes[n].Kids = append(t.Nodes[n].Kids, 0) })
		for kid := range knot.Kids {
			turn(fmt.Sprint("Kid ", kid, " of ", at), func(t *impl.Tree) { t.Nodes[n].Kids[kid]++ })
		}
		if len(knot.Kids) > 0 {
			turn("a Kid less "+at, func(t *impl.Tree) { t.Nodes[n].Kids = t.Nodes[n].Kids[1:] })
			turn("the last Kid less "+at, func(t *impl.Tree) { t.Nodes[n].Kids = t.Nodes[n].Kids[:len(knot.Kids)-1] })
		}
	}
	return out
}

func TestTreesThatAreTheSame(t *testing.T) {
	r := rand.New(rand.NewSource(96))
	checkTreeSame(t, "nothing", impl.Tree{}, impl.Tree{}, true)
	checkTreeSame(t, "nil and empty", impl.Tree{Nodes: nil}, impl.Tree{Nodes: []impl.Knot{}}, true)
	checkTreeSame(t, "no Kids", impl.Tree{Nodes: []impl.Knot{{Kids: nil}}}, impl.Tree{Nodes: []impl.Knot{{Kids: []int{}}}}, true)
	wrong := impl.Tree{Nodes: []impl.Knot{{Kind: -5, Text: "\xff", I: math.MinInt, Kids: []int{math.MaxInt, -1, 0}}}, Top: 77}
	checkTreeSame(t, "wrong ones", wrong, cloneTree(wrong), true)
	checkTreeSame(t, "itself", wrong, wrong, true)
	for range 200 {
		top := someTree(r, 1+r.Intn(40), 4)
		checkTreeSame(t, "made twice", top.tree(), top.tree(), true)
		roomy := cloneTree(top.tree())
		roomy.Nodes = append(roomy.Nodes, impl.Knot{Kind: 9})[:len(roomy.Nodes)]
		checkTreeSame(t, "with room behind", top.tree(), roomy, true)
	}
}

func TestTreesThatDiffer(t *testing.T) {
	r := rand.New(rand.NewSource(97))
	tops := []twig{broad(), tBlock(), someTree(r, 20, 4), someTree(r, 20, 4)}
	for _, top := range tops {
		for name, turned := range oneFieldTurned(top.tree()) {
			checkTreeSame(t, name, top.tree(), turned, false)
		}
	}
	checkTreeSame(t, "nothing and the empty text", impl.Tree{}, tBlock().tree(), false)
	for _, r := range allRows() {
		for _, s := range allRows() {
			a, b := tBlock(r.want...).tree(), tBlock(s.want...).tree()
			checkTreeSame(t, r.text+" "+s.text, a, b, sameTrees(a, b))
		}
	}
	// What can't be told by the texts alone, nor by the numbers alone.
	checkTreeSame(t, "a name and a text", tBlock(tReturn(tName("x"))).tree(), tBlock(tReturn(tText("x"))).tree(), false)
	checkTreeSame(t, "an item and a turn", tBlock(tReturn(tTable(tItem(tNil())))).tree(), tBlock(tReturn(tTable(tPair(tNil(), tNil())))).tree(), false)
}

// spareTree has room behind each list, with something in it.
func spareTree(t impl.Tree) (tree impl.Tree, all func() string) {
	spare := impl.Knot{Kind: 77, Text: "spare", I: 77, Kids: []int{77}}
	tree = impl.Tree{Nodes: append(slices.Clone(t.Nodes), spare, spare)[:len(t.Nodes)], Top: t.Top}
	for i, knot := range tree.Nodes {
		tree.Nodes[i].Kids = append(slices.Clone(knot.Kids), 77, 78, 79)[:len(knot.Kids)]
	}
	return tree, func() string {
		text := fmt.Sprint(tree.Top, tree.Nodes[:len(tree.Nodes)+2])
		for _, knot := range tree.Nodes {
			text += fmt.Sprint(knot.Kids[:len(knot.Kids)+3])
		}
		return text
	}
}

// Nothing is written into an argument, nor behind it, whether it is right or not.
func TestTreesStay(t *testing.T) {
	trees := []impl.Tree{broad().tree(), tBlock().tree(), {}}
	for _, turned := range oneFieldTurned(broad().tree()) {
		trees = append(trees, turned)
	}
	for _, one := range trees {
		tree, all := spareTree(one)
		other, allOther := spareTree(one)
		before, beforeOther := all(), allOther()
		impl.TreeOk(tree)
		impl.Print(tree)
		impl.TreeSame(tree, other)
		impl.TreeSame(tree, tree)
		if all() != before || allOther() != beforeOther {
			t.Errorf("written into:\n%s\nwas\n%s", all(), before)
		}
	}
}

// memory is where a list lies, with the room behind it.
type memory struct{ from, to uintptr }

func memoryOf[T any](list []T) memory {
	if cap(list) == 0 {
		return memory{}
	}
	var one T
	from := uintptr(unsafe.Pointer(unsafe.SliceData(list)))
	return memory{from, from + uintptr(cap(list))*unsafe.Sizeof(one)}
}

func (m memory) meets(o memory) bool {
	return m.from < o.to && o.from < m.to
}

// No two lists of an answer share memory, nor those of two answers.
func TestReadTreesAreNew(t *testing.T) {
	for _, text := range append(readingPrograms(), programs()...) {
		var memories []memory
		var trees []impl.Tree
		for range 2 {
			tree, code, _ := impl.Parse(text)
			if code != impl.ParDone {
				t.Fatalf("%q: refused", text)
			}
			trees = append(trees, tree)
			memories = append(memories, memoryOf(tree.Nodes))
			for _, knot := range tree.Nodes {
				memories = append(memories, memoryOf(knot.Kids))
			}
		}
		for i, m := range memories {
			for _, o := range memories[:i] {
				if m.meets(o) {
					t.Fatalf("%q: two lists share memory", text)
				}
			}
		}
		checkOwnText(t, text, trees)
	}
}

// checkOwnText: the texts of the trees lie in no other one's memory; what is written into one tree is in no other one.
func checkOwnText(t *testing.T, text string, trees []impl.Tree) {
	t.Helper()
	for i, knot := range trees[0].Nodes {
		for _, other := range trees[1].Nodes {
			if sharesBytes(knot.Text, other.Text) {
				t.Errorf("%q: %q shares memory with another tree", text, knot.Text)
			}
		}
		for j := range knot.Kids {
			trees[0].Nodes[i].Kids[j] = -1
		}
		trees[0].Nodes[i] = impl.Knot{}
	}
	again, _, _ := impl.Parse(text)
	if !sameTrees(again, trees[1]) || !impl.TreeOk(trees[1]) {
		t.Errorf("%q is read as another tree", text)
	}
}

// What is printed lies in no memory of the tree.
func TestPrintedTextsAreNew(t *testing.T) {
	for _, top := range []twig{broad(), tBlock(tDo(tCall(tName("f")))), tBlock(tReturn(tText("a long text")))} {
		tree := top.tree()
		text, _ := impl.Print(tree)
		for _, knot := range tree.Nodes {
			if sharesBytes(knot.Text, text) || sharesBytes(text, knot.Text) {
				t.Errorf("%q shares memory with %q", text, knot.Text)
			}
		}
		again, _ := impl.Print(tree)
		if again != text || sharesBytes(again, text) {
			t.Errorf("%q is printed again as %q, or in its memory", text, again)
		}
	}
}
