package tests

import (
	"fmt"
	"math"
	"slices"
	"testing"

	"loop.example/g00101/impl"
)

func boxNode(v impl.Val) impl.Node {
	return impl.Node{Kind: impl.KCell, Slots: []impl.Val{v}}
}

func textNode(s string) impl.Node {
	return impl.Node{Kind: impl.KStr, Text: s}
}

// nones is a list of so many values, all nothing.
func nones(n int) []impl.Val {
	return make([]impl.Val, n)
}

// checkByHand: an arena has the shape that is written out.
func checkByHand(t *testing.T, name string, a impl.Arena, want impl.Shape) {
	t.Helper()
	got, ok := impl.ShapeOf(a)
	if !ok {
		t.Fatalf("%s: there is no shape", name)
	}
	checkLines(t, name, got, want)
	checkShape(t, name, a)
}

// zoo has objects of all kinds, most of them come to in more ways than one, circles and garbage.
func zoo(semi int, to int) impl.Arena {
	a := newArena(semi, to)
	l := &layer{a.Words, a.Top}
	l.text("garbage")
	text := ref(impl.TStr, l.text("zoo\xff"))
	box := ref(impl.TCell, l.cell(impl.Val{}))
	fun := ref(impl.TFun, l.fun(1, 200, box, box))
	bare := ref(impl.TFun, l.fun(2, 0))
	block := l.block(4)
	tab := ref(impl.TTab, l.table(3, 3, ref(impl.TBlk, block)))
	copy(a.Words[block+1+4:], pairs(fun, text, bare, impl.Val{}, tab, tab)) // by their serials; the second one is dead
	none := ref(impl.TTab, l.table(4, 0, impl.Val{}))
	one := ref(impl.TCo, l.co(5, [4]uint64{4, 3, 2, 17}, impl.Val{}, num(0), num(9), fun))
	stack := nones(60)
	two := ref(impl.TCo, l.at)
	stack[0], stack[1], stack[2], stack[59] = text, two, num(-3), none
	l.co(6, [4]uint64{2, 60, 3, 4095}, one, stack...)
	copy(a.Words[box.N+1:], pairs(one))
	l.cell(tab) // garbage that leads to what is come to
	a.Top, a.Serial = l.at, 7
	a.Roots = []impl.Val{num(1), box, tab, two, tab, {}}
	return a
}

func zooShape() impl.Shape {
	box, tab, two := ref(impl.TCell, 0), ref(impl.TTab, 1), ref(impl.TCo, 2)
	one, block, text, none, fun, bare := ref(impl.TCo, 3), ref(impl.TBlk, 4), ref(impl.TStr, 5), ref(impl.TTab, 6), ref(impl.TFun, 7), ref(impl.TFun, 8)
	stack := nones(61)
	stack[0], stack[1], stack[2], stack[3], stack[60] = one, text, two, num(-3), none
	return impl.Shape{
		Roots: []impl.Val{num(1), box, tab, two, tab, {}},
		Nodes: []impl.Node{
			boxNode(one),
			{Kind: impl.KTab, Serial: 3, N: 3, Slots: []impl.Val{block}},
			{Kind: impl.KCo, Serial: 6, N: 2, M: 60, Slots: stack},
			{Kind: impl.KCo, Serial: 5, N: 4, M: 3, Slots: []impl.Val{{}, num(0), num(9), fun}},
			{Kind: impl.KBlk, Slots: []impl.Val{{}, {}, fun, text, bare, {}, tab, tab}},
			textNode("zoo\xff"),
			{Kind: impl.KTab, Serial: 4, Slots: nones(1)},
			{Kind: impl.KFun, Serial: 1, N: 200, Slots: []impl.Val{box, box}},
			{Kind: impl.KFun, Serial: 2},
		},
	}
}

// Objects of all kinds, by hand, in either half and wherever they lie.
func TestShapeOfAllKinds(t *testing.T) {
	for to := range 2 {
		for _, semi := range []int{310, 400, impl.MaxSemi} {
			checkByHand(t, fmt.Sprint("half ", to, " of ", semi), zoo(semi, to), zooShape())
		}
	}
}

func TestShapeOfTheStillSample(t *testing.T) {
	want := impl.Shape{
		Roots: []impl.Val{{}, yes(), num(7), {Tag: impl.TLib, N: 20}, ref(impl.TStr, 0), ref(impl.TTab, 1), ref(impl.TFun, 2), ref(impl.TCo, 3), ref(impl.TCell, 4)},
		Nodes: []impl.Node{
			textNode("abcdefgh\xff"),
			{Kind: impl.KTab, Serial: 3, N: 3, Slots: []impl.Val{ref(impl.TBlk, 5)}},
			{Kind: impl.KFun, Serial: 1, N: 255, Slots: []impl.Val{ref(impl.TCell, 4), ref(impl.TCell, 6)}},
			{Kind: impl.KCo, Serial: 5, N: 4, M: 3, Slots: []impl.Val{{}, num(0), num(0), ref(impl.TCell, 6)}},
			boxNode(ref(impl.TCell, 6)),
			{Kind: impl.KBlk, Slots: []impl.Val{num(8), yes(), ref(impl.TFun, 2), {}, num(4), num(1), {}, {}}},
			boxNode(num(-5)),
		},
	}
	for to := range 2 {
		checkByHand(t, "the still sample", stillSample(impl.MinSemi, to).Arena, want)
	}
}

// Roots that lead nowhere are told as they stand, those whose number is the place of an object among them; there are no nodes.
func TestShapeOfRootsThatLeadNowhere(t *testing.T) {
	for to := range 2 {
		full := stillSample(300, to)
		lists := [][]impl.Val{nil, {}, {{}}, nones(impl.MaxRoots),
			{num(0), num(1), num(-1), num(math.MaxInt), num(math.MinInt), yes(), {Tag: impl.TBool}, {Tag: impl.TLib, N: 1}, {Tag: impl.TLib, N: impl.MaxLib}},
			{num(full.at["box"]), num(full.at["table"]), num(full.Top), {Tag: impl.TLib, N: 1}},
		}
		for i, roots := range lists {
			for _, a := range []impl.Arena{newArena(impl.MinSemi, to), full.Arena, cycleSample(300, to).Arena} {
				a.Roots = roots
				checkByHand(t, fmt.Sprint("half ", to, ", Roots ", i), a, impl.Shape{Roots: roots})
			}
		}
	}
}

// boxedTexts is an arena with so many boxes, each of which has a text of its own number; the Roots are given as numbers of boxes.
func boxedTexts(to int, boxes int, roots ...int) impl.Arena {
	a := newArena(300, to)
	l := &layer{a.Words, a.Top}
	var list []impl.Val
	for i := range boxes {
		l.cell(num(i)) // garbage
		list = append(list, ref(impl.TCell, l.cell(ref(impl.TStr, l.text(fmt.Sprint(i))))))
	}
	for _, r := range roots {
		a.Roots = append(a.Roots, list[r])
	}
	a.Top = l.at
	return a
}

// Numbers go by the order in which objects are come to, not by where they lie: all of Roots first, then what these lead to.
func TestNumbersOfNodes(t *testing.T) {
	for to := range 2 {
		for _, roots := range [][]int{{0, 1, 2, 3}, {3, 2, 1, 0}, {2, 0, 3, 1}, {1}, {3, 1}} {
			want := impl.Shape{Nodes: make([]impl.Node, 2*len(roots))}
			for i, r := range roots {
				want.Roots = append(want.Roots, ref(impl.TCell, i))
				want.Nodes[i] = boxNode(ref(impl.TStr, len(roots)+i))
				want.Nodes[len(roots)+i] = textNode(fmt.Sprint(r))
			}
			checkByHand(t, fmt.Sprint("half ", to, ", Roots ", roots), boxedTexts(to, 4, roots...), want)
		}
	}
}

// One object that several Roots lead to has one number, that of the first.
func TestRootsThatLeadToOneObject(t *testing.T) {
	box, text := ref(impl.TCell, 0), ref(impl.TStr, 1)
	for to := range 2 {
		want := impl.Shape{Roots: []impl.Val{box, box, box}, Nodes: []impl.Node{boxNode(text), textNode("2")}}
		checkByHand(t, "one box", boxedTexts(to, 3, 2, 2, 2), want)

		a := boxedTexts(to, 3, 2, 0, 2)
		a.Roots = append(a.Roots, slotOf(a, a.Roots[0].N, 0), num(5), a.Roots[1]) // the text of the first one
		want = impl.Shape{
			Roots: []impl.Val{box, ref(impl.TCell, 1), box, ref(impl.TStr, 2), num(5), ref(impl.TCell, 1)},
			Nodes: []impl.Node{boxNode(ref(impl.TStr, 2)), boxNode(ref(impl.TStr, 3)), textNode("2"), textNode("0")},
		}
		checkByHand(t, "a box and its text", a, want)
	}
}

// Two texts of the same bytes are two objects.
func TestEqualTextsAreTwoNodes(t *testing.T) {
	for to := range 2 {
		a := dirty(300, to, 3)
		a, _ = impl.PutText(a, "ab", 0)
		a, _ = impl.PutText(a, "ab", 1)
		a, _ = impl.MoveRoot(a, 2, 0)
		checkByHand(t, "two texts", a, impl.Shape{
			Roots: []impl.Val{ref(impl.TStr, 0), ref(impl.TStr, 1), ref(impl.TStr, 0)},
			Nodes: []impl.Node{textNode("ab"), textNode("ab")},
		})
	}
}

// Slots go node by node, and in a node slot by slot; what a later Root leads to comes ahead of what an earlier one's object leads to.
func TestSlotBySlot(t *testing.T) {
	for to := range 2 {
		a := newArena(300, to)
		l := &layer{a.Words, a.Top}
		deep := ref(impl.TStr, l.text("deep"))
		last := ref(impl.TCell, l.cell(deep))
		first := ref(impl.TCell, l.cell(last))
		mid := ref(impl.TCell, l.cell(num(4)))
		fun := ref(impl.TFun, l.fun(1, 3, last, first, mid, first))
		a.Top, a.Serial, a.Roots = l.at, 2, []impl.Val{fun, mid}
		checkByHand(t, "slot by slot", a, impl.Shape{
			Roots: []impl.Val{ref(impl.TFun, 0), ref(impl.TCell, 1)},
			Nodes: []impl.Node{
				{Kind: impl.KFun, Serial: 1, N: 3, Slots: []impl.Val{ref(impl.TCell, 2), ref(impl.TCell, 3), ref(impl.TCell, 1), ref(impl.TCell, 3)}},
				boxNode(num(4)),
				boxNode(ref(impl.TStr, 4)),
				boxNode(ref(impl.TCell, 2)),
				textNode("deep"),
			},
		})
	}
}

// A slot that is no reference stands as it is, whatever its number; the number of an object's place is no reference.
func TestSlotsThatAreNoReferences(t *testing.T) {
	for to := range 2 {
		a := newArena(impl.MinSemi, to)
		l := &layer{a.Words, a.Top}
		text := ref(impl.TStr, l.text("text"))
		plain := []impl.Val{{}, yes(), {Tag: impl.TBool}, num(text.N), num(math.MinInt), num(math.MaxInt), num(-1), {Tag: impl.TLib, N: 1}, {Tag: impl.TLib, N: 20}}
		want := impl.Shape{}
		for i, v := range plain {
			a.Roots = append(a.Roots, ref(impl.TCell, l.cell(v)))
			want.Roots = append(want.Roots, ref(impl.TCell, i))
			want.Nodes = append(want.Nodes, boxNode(v))
		}
		a.Top = l.at
		checkByHand(t, "no references", a, want)
	}
}

func TestShapesOfCircles(t *testing.T) {
	for to := range 2 {
		a := newArena(300, to)
		l := &layer{a.Words, a.Top}
		l.text("garbage")
		self := ref(impl.TCell, l.at)
		l.cell(self)
		a.Top, a.Roots = l.at, []impl.Val{self}
		checkByHand(t, "a box that holds itself", a, impl.Shape{Roots: []impl.Val{ref(impl.TCell, 0)}, Nodes: []impl.Node{boxNode(ref(impl.TCell, 0))}})

		const length = 5
		b := newArena(300, to)
		l = &layer{b.Words, b.Top}
		begin, want := b.Top, impl.Shape{Roots: []impl.Val{ref(impl.TCell, 0)}}
		for i := range length {
			l.cell(ref(impl.TCell, begin+3*((i+1)%length)))
			want.Nodes = append(want.Nodes, boxNode(ref(impl.TCell, (i+1)%length)))
		}
		for i := range length { // wherever it is come to, the circle is the same
			b.Top, b.Roots = l.at, []impl.Val{ref(impl.TCell, begin+3*i)}
			checkByHand(t, "a circle of boxes", b, want)
		}
	}
}

// A table that is its own key and its own value, by hand and by the doors.
func TestShapeOfATableInItself(t *testing.T) {
	tab := ref(impl.TTab, 0)
	want := impl.Shape{
		Roots: []impl.Val{tab},
		Nodes: []impl.Node{
			{Kind: impl.KTab, Serial: 1, N: 1, Slots: []impl.Val{ref(impl.TBlk, 1)}},
			{Kind: impl.KBlk, Slots: []impl.Val{{}, {}, tab, tab, {}, {}, {}, {}}},
		},
	}
	for to := range 2 {
		a := dirty(300, to, 1)
		a, _ = impl.NewTab(a, 0)
		a, code := impl.SetKey(a, 0, 0, 0)
		if code != impl.Done {
			t.Fatal("SetKey", code)
		}
		checkByHand(t, "a table in itself", a, want)

		dead := a
		dead.Roots = append(slices.Clone(a.Roots), impl.Val{})
		dead, _ = impl.SetKey(dead, 0, 0, 1)
		lost := want
		lost.Roots = []impl.Val{tab, {}}
		lost.Nodes = []impl.Node{want.Nodes[0], {Kind: impl.KBlk, Slots: []impl.Val{{}, {}, tab, {}, {}, {}, {}, {}}}}
		checkByHand(t, "a table as its own dead key", dead, lost)
	}
}

// Coroutines that have resumed each other, and one that has resumed itself.
func TestShapeOfCoroutinesInACircle(t *testing.T) {
	for to := range 2 {
		a := newArena(400, to)
		l := &layer{a.Words, a.Top}
		one, two := ref(impl.TCo, a.Top), ref(impl.TCo, a.Top+127)
		l.co(8, [4]uint64{4}, two)
		l.co(2, [4]uint64{3, 1}, one, two)
		a.Top, a.Serial, a.Roots = l.at, 9, []impl.Val{two}
		checkByHand(t, "two coroutines", a, impl.Shape{
			Roots: []impl.Val{ref(impl.TCo, 0)},
			Nodes: []impl.Node{
				{Kind: impl.KCo, Serial: 2, N: 3, M: 1, Slots: []impl.Val{ref(impl.TCo, 1), ref(impl.TCo, 0)}},
				{Kind: impl.KCo, Serial: 8, N: 4, Slots: []impl.Val{ref(impl.TCo, 0)}},
			},
		})
		copy(a.Words[one.N+5:], pairs(one))
		a.Roots = []impl.Val{one}
		checkByHand(t, "itself", a, impl.Shape{
			Roots: []impl.Val{ref(impl.TCo, 0)},
			Nodes: []impl.Node{{Kind: impl.KCo, Serial: 8, N: 4, Slots: []impl.Val{ref(impl.TCo, 0)}}},
		})
	}
}

// Of a coroutine's slots are told who has resumed it, and as many as its stack has, nothing among them; its third and fourth word are not told.
func TestSlotsOfACoroutine(t *testing.T) {
	for to := range 2 {
		for _, top := range []int{0, 1, 2, 3, 30, 59, 60} {
			for _, words := range [][2]uint64{{0, 0}, {uint64(top), 4095}, {0, 7}} {
				a := newArena(300, to)
				l := &layer{a.Words, a.Top}
				text := ref(impl.TStr, l.text("on the stack"))
				stack, told := nones(top), nones(top+1)
				if top > 0 {
					stack[0], told[1] = num(11), num(11)
				}
				if top > 1 {
					stack[top-1], told[top] = text, ref(impl.TStr, 1) // the last one, with nothing in between
				}
				co := ref(impl.TCo, l.co(1, [4]uint64{1, uint64(top), words[0], words[1]}, impl.Val{}, stack...))
				a.Top, a.Serial, a.Roots = l.at, 2, []impl.Val{co}
				want := impl.Shape{Roots: []impl.Val{ref(impl.TCo, 0)}, Nodes: []impl.Node{{Kind: impl.KCo, Serial: 1, N: 1, M: top, Slots: told}}}
				if top > 1 {
					want.Nodes = append(want.Nodes, textNode("on the stack"))
				}
				checkByHand(t, fmt.Sprint("half ", to, ", a stack of ", top), a, want)
				s, _ := impl.ShapeOf(a)
				if n := len(s.Nodes[0].Slots); n != top+1 {
					t.Errorf("of a stack of %d there are %d slots", top, n)
				}
			}
		}
	}
}

// A stack whose values are all nothing is as long as it says.
func TestStackOfNothing(t *testing.T) {
	a := newArena(300, 0)
	l := &layer{a.Words, a.Top}
	a.Roots = []impl.Val{ref(impl.TCo, l.co(1, [4]uint64{0, 4}, impl.Val{})), ref(impl.TCo, l.co(2, [4]uint64{0, 5}, impl.Val{}))}
	a.Top, a.Serial = l.at, 3
	checkByHand(t, "stacks of nothing", a, impl.Shape{
		Roots: []impl.Val{ref(impl.TCo, 0), ref(impl.TCo, 1)},
		Nodes: []impl.Node{{Kind: impl.KCo, Serial: 1, M: 4, Slots: nones(5)}, {Kind: impl.KCo, Serial: 2, M: 5, Slots: nones(6)}},
	})
}

// Every status, and the first word of a function at its ends.
func TestFirstWords(t *testing.T) {
	for n := range 5 {
		a := newArena(300, 0)
		l := &layer{a.Words, a.Top}
		a.Roots = []impl.Val{ref(impl.TCo, l.co(impl.MaxSerial-1, [4]uint64{uint64(n)}, impl.Val{}))}
		a.Top, a.Serial = l.at, impl.MaxSerial
		checkByHand(t, "a status", a, impl.Shape{
			Roots: []impl.Val{ref(impl.TCo, 0)},
			Nodes: []impl.Node{{Kind: impl.KCo, Serial: impl.MaxSerial - 1, N: n, Slots: nones(1)}},
		})
	}
	for _, proto := range []int{0, 1, 254, 255} {
		a, _ := impl.NewArena(256, 1)
		a, _ = impl.NewFun(a, proto, nil, 0)
		checkByHand(t, "a function", a, impl.Shape{Roots: []impl.Val{ref(impl.TFun, 0)}, Nodes: []impl.Node{{Kind: impl.KFun, Serial: 1, N: proto}}})
	}
}

// Tables with blocks of each capacity: all entries are slots, the empty ones, too; how many have a key is told.
func TestShapesOfBlocks(t *testing.T) {
	for to := range 2 {
		for _, capacity := range []int{4, 8, 16, 32, 64} {
			a := newArena(600, to)
			l := &layer{a.Words, a.Top}
			var entries []entry
			told := nones(2 * capacity)
			for i := capacity / 4; i < capacity; i++ {
				entries = append(entries, entry{i, num(i), num(-i)})
				told[2*i], told[2*i+1] = num(i), num(-i)
			}
			block := ref(impl.TBlk, l.block(capacity, entries...))
			tab := ref(impl.TTab, l.table(1, capacity/4*3, block))
			a.Top, a.Serial, a.Roots = l.at, 2, []impl.Val{tab}
			checkByHand(t, fmt.Sprint("a block of ", capacity), a, impl.Shape{
				Roots: []impl.Val{ref(impl.TTab, 0)},
				Nodes: []impl.Node{
					{Kind: impl.KTab, Serial: 1, N: capacity / 4 * 3, Slots: []impl.Val{ref(impl.TBlk, 1)}},
					{Kind: impl.KBlk, Slots: told},
				},
			})
		}
	}
}

// Texts are told byte by byte, whatever these are; how many there are is no N.
func TestShapesOfTexts(t *testing.T) {
	texts := oddTexts()
	for _, n := range edgeLengths() {
		texts = append(texts, motley(n, 0), motley(n, 200))
	}
	for i, s := range texts {
		a := dirty(impl.MinSemi, i%2, 1)
		a, _ = impl.PutText(a, s, 0)
		checkByHand(t, fmt.Sprintf("%q", s), a, impl.Shape{Roots: []impl.Val{ref(impl.TStr, 0)}, Nodes: []impl.Node{textNode(s)}})
	}
}

// Functions with as many boxes as may be, each another one, and one twice.
func TestShapesOfFunctions(t *testing.T) {
	for to := range 2 {
		for n := range impl.MaxUps + 1 {
			a := newArena(300, to)
			l := &layer{a.Words, a.Top}
			var cells, told []impl.Val
			want := impl.Shape{Roots: []impl.Val{ref(impl.TFun, 0)}, Nodes: make([]impl.Node, 1)}
			for i := range n {
				cells = append(cells, ref(impl.TCell, l.cell(num(i))))
				told = append(told, ref(impl.TCell, 1+i))
				want.Nodes = append(want.Nodes, boxNode(num(i)))
			}
			if n == impl.MaxUps {
				cells[7], told[7] = cells[3], told[3]
				want.Nodes = want.Nodes[:8]
				for i := 8; i < n; i++ {
					told[i].N--
					want.Nodes = append(want.Nodes, boxNode(num(i)))
				}
			}
			want.Nodes[0] = impl.Node{Kind: impl.KFun, Serial: 1, N: n, Slots: told}
			a.Roots = []impl.Val{ref(impl.TFun, l.fun(1, uint64(n), cells...))}
			a.Top, a.Serial = l.at, 2
			checkByHand(t, fmt.Sprint("a function of ", n), a, want)
		}
	}
}

// What nothing leads to is no node: garbage, what only garbage leads to, and what was a Root.
func TestGarbageIsNoNode(t *testing.T) {
	for to := range 2 {
		a := zoo(400, to)
		for r := range a.Roots {
			a, _ = impl.SetRoot(a, r, impl.Val{})
		}
		checkByHand(t, "no Root leads anywhere", a, impl.Shape{Roots: nones(6)})
		b := boxedTexts(to, 4, 1, 3)
		b, _ = impl.SetRoot(b, 0, num(2))
		checkByHand(t, "a Root less", b, impl.Shape{
			Roots: []impl.Val{num(2), ref(impl.TCell, 0)},
			Nodes: []impl.Node{boxNode(ref(impl.TStr, 1)), textNode("3")},
		})
	}
}

// A half that is full of boxes in a chain: as many nodes as there is room for.
func TestShapeOfAFullHalf(t *testing.T) {
	for to := range 2 {
		const boxes = 85
		want := impl.Shape{Roots: []impl.Val{ref(impl.TCell, 0)}}
		for i := range boxes - 1 {
			want.Nodes = append(want.Nodes, boxNode(ref(impl.TCell, i+1)))
		}
		want.Nodes = append(want.Nodes, boxNode(num(0)))
		checkByHand(t, "a full half", chain(impl.MinSemi, to, boxes), want)
	}
	a := chain(impl.MaxSemi, 1, (impl.MaxSemi-1)/3)
	if s, ok := impl.ShapeOf(a); !ok || len(s.Nodes) != 1333 {
		t.Error("the greatest half has", len(s.Nodes), "nodes")
	}
}
