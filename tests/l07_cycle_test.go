package tests

import (
	"fmt"
	"slices"
	"testing"

	"loop.example/g00101/impl"
)

// The shape ahead of a flip is that behind it, behind each step of the cycle, behind its end, and behind all of this once more.
func TestShapeStepByStep(t *testing.T) {
	makers := map[string]func(semi int, to int) impl.Arena{
		"zoo":     zoo,
		"shelf":   shelf,
		"library": library,
		"cabinet": func(_ int, to int) impl.Arena { return cabinet(700, to) },
		"sample":  func(semi int, to int) impl.Arena { return stillSample(semi, to).Arena },
		"chain":   func(semi int, to int) impl.Arena { return chain(semi, to, 9) },
	}
	for name, of := range makers {
		for to := range 2 {
			a := of(400, to)
			said, ok := impl.ShapeOf(a)
			if !ok || len(said.Nodes) == 0 {
				t.Fatal(name, "has no shape")
			}
			steps := 0
			for range 2 {
				a = flippedOf(a)
				for ; a.Cycle; steps++ {
					checkLines(t, fmt.Sprint(name, ", half ", to, ", ", steps, " steps"), shapeThere(t, a), said)
					a, _ = impl.CopyStep(a, 1)
				}
				checkLines(t, fmt.Sprint(name, ", half ", to, ", the cycle is over"), shapeThere(t, a), said)
			}
			if a.To != to || steps != 2*len(said.Nodes) {
				t.Errorf("%s: half %d, %d steps for %d nodes", name, to, steps, len(said.Nodes))
			}
		}
	}
}

// shapeThere is the shape of an arena that has one.
func shapeThere(t *testing.T, a impl.Arena) impl.Shape {
	t.Helper()
	s, ok := impl.ShapeOf(a)
	if !ok {
		t.Fatal("there is no shape")
	}
	return s
}

// In each stage of a cycle the shape is the one that is written out, and stays so.
func TestShapeInEachStage(t *testing.T) {
	for to := range 2 {
		for _, semi := range []int{310, 400} {
			for stage, a := range stages(zoo, semi, to) {
				checkByHand(t, fmt.Sprint("half ", to, " of ", semi, ", ", stage), a, zooShape())
			}
		}
	}
}

// The sample whose Cycle runs, by hand: "done text" and the copies are come to by where they were.
func TestShapeOfTheCycleSample(t *testing.T) {
	box, tab := ref(impl.TCell, 0), ref(impl.TTab, 1)
	want := impl.Shape{
		Roots: []impl.Val{box, tab, {}},
		Nodes: []impl.Node{
			boxNode(ref(impl.TStr, 2)),
			{Kind: impl.KTab, Serial: 1, N: 3, Slots: []impl.Val{ref(impl.TBlk, 3)}},
			textNode("old text"),
			{Kind: impl.KBlk, Slots: []impl.Val{ref(impl.TStr, 4), num(1), num(4), ref(impl.TFun, 5), tab, yes(), {}, {}}},
			textNode("done"),
			{Kind: impl.KFun, Serial: 2, N: 7, Slots: []impl.Val{ref(impl.TCell, 6), box}},
			boxNode(box),
		},
	}
	for to := range 2 {
		checkByHand(t, "the cycle sample", cycleSample(impl.MinSemi, to).Arena, want)
	}
}

// copied is an object that was copied: its copy in the half in use, the word that leads there in the other one.
type copied struct {
	tag   int
	size  int
	lay   func(l *layer) int
	nodes []impl.Node // its own, and what its slots lead to; the numbers count from its own
}

func copiedKinds() map[string]copied {
	return map[string]copied{
		"a text":                   {impl.TStr, 3, func(l *layer) int { return l.text("twelve bytes") }, []impl.Node{textNode("twelve bytes")}},
		"a box":                    {impl.TCell, 2, func(l *layer) int { return l.cell(num(6)) }, []impl.Node{boxNode(num(6))}},
		"a table without a block":  {impl.TTab, 3, func(l *layer) int { return l.table(1, 0, impl.Val{}) }, []impl.Node{{Kind: impl.KTab, Serial: 1, Slots: nones(1)}}},
		"a function without boxes": {impl.TFun, 1, func(l *layer) int { return l.fun(1, 33) }, []impl.Node{{Kind: impl.KFun, Serial: 1, N: 33}}},
		"a coroutine": {impl.TCo, 126, func(l *layer) int { return l.co(1, [4]uint64{1, 2}, impl.Val{}, num(1), num(2)) },
			[]impl.Node{{Kind: impl.KCo, Serial: 1, N: 1, M: 2, Slots: []impl.Val{{}, num(1), num(2)}}}},
	}
}

// waysTo has a Cycle that runs: for each way a box in a Root, behind Scan, that leads to the object: by "old", where it was; by "copy", where it is; by "chain", a box of the other half that leads to where it was.
func waysTo(to int, object copied, ways ...string) impl.Arena {
	a := newArena(400, to)
	l := &layer{a.Words, a.Top}
	o := &layer{a.Words, (1-to)*400 + 1}
	o.text("left behind")
	at := object.lay(l)
	a.Scan = l.at
	old := o.forward(at, object.size)
	for _, way := range ways {
		box := ref(object.tag, at)
		switch way {
		case "old":
			box.N = old
		case "chain":
			box = ref(impl.TCell, o.cell(ref(object.tag, old)))
		}
		a.Roots = append(a.Roots, ref(impl.TCell, l.cell(box)))
	}
	a.Cycle, a.Top, a.Old, a.Serial, a.Copied = true, l.at, o.at, 2, object.size+1
	return a
}

// wayShape is the shape of what waysTo makes.
func wayShape(object copied, ways ...string) impl.Shape {
	var s impl.Shape
	// The object is come to first by the first way that is no chain; a chain's box is come to where its Root is, and the object by it last.
	number, next := -1, len(ways)
	numberOf := map[int]int{}
	for i, way := range ways {
		if way == "chain" {
			numberOf[i] = next
			next++
		} else if number < 0 {
			number = next
			next++
		}
	}
	if number < 0 {
		number = next
	}
	lead := ref(object.tag, number)
	behind := make([]impl.Node, 0)
	for i, way := range ways {
		s.Roots = append(s.Roots, ref(impl.TCell, i))
		if way == "chain" {
			s.Nodes = append(s.Nodes, boxNode(ref(impl.TCell, numberOf[i])))
		} else {
			s.Nodes = append(s.Nodes, boxNode(lead))
		}
	}
	for range len(numberOf) {
		behind = append(behind, boxNode(lead))
	}
	s.Nodes = append(s.Nodes, slices.Insert(behind, number-len(ways), object.nodes...)...)
	return s
}

// However an object is come to that was copied already, by where it was, by where it is, or by both, it is one node.
func TestOneNodeOfWhatWasCopied(t *testing.T) {
	lists := [][]string{{"old"}, {"copy"}, {"chain"}, {"old", "copy"}, {"copy", "old"}, {"old", "old"}, {"copy", "copy"},
		{"chain", "copy"}, {"chain", "old"}, {"old", "chain"}, {"copy", "chain", "old"}, {"chain", "chain"}, {"chain", "old", "copy", "chain", "old"}}
	for to := range 2 {
		for name, object := range copiedKinds() {
			for _, ways := range lists {
				a := waysTo(to, object, ways...)
				checkByHand(t, fmt.Sprint("half ", to, ", ", name, " by ", ways), a, wayShape(object, ways...))
				count := 0
				for _, n := range shapeThere(t, a).Nodes {
					if n.Kind == object.nodes[0].Kind && linesOf(impl.Shape{Nodes: []impl.Node{n}})[1] == linesOf(impl.Shape{Nodes: object.nodes})[1] {
						count++
					}
				}
				if count != 1 {
					t.Errorf("half %d, %s by %v: %d nodes", to, name, ways, count)
				}
			}
		}
	}
}

// A Root leads to the copy, a slot to where the object was: one node, with the Root's number.
func TestRootAndSlotOfWhatWasCopied(t *testing.T) {
	for to := range 2 {
		for name, object := range copiedKinds() {
			a := waysTo(to, object, "old")
			a.Roots = []impl.Val{ref(object.tag, to*400+1), a.Roots[0]}
			want := impl.Shape{
				Roots: []impl.Val{ref(object.tag, 0), ref(impl.TCell, 1)},
				Nodes: append(slices.Clone(object.nodes), boxNode(ref(object.tag, 0))),
			}
			checkByHand(t, fmt.Sprint("half ", to, ", ", name), a, want)
		}
	}
}

// A box that was copied, and leads to where it was itself.
func TestCopyThatLeadsToWhereItWas(t *testing.T) {
	want := impl.Shape{Roots: []impl.Val{ref(impl.TCell, 0)}, Nodes: []impl.Node{boxNode(ref(impl.TCell, 0))}}
	for to := range 2 {
		for _, self := range []bool{false, true} {
			a := newArena(300, to)
			l := &layer{a.Words, a.Top}
			o := &layer{a.Words, (1-to)*300 + 1}
			at := l.cell(impl.Val{})
			old := o.forward(at, 2)
			copy(a.Words[at+1:], pairs(ref(impl.TCell, old)))
			if self {
				copy(a.Words[at+1:], pairs(ref(impl.TCell, at)))
			}
			a.Roots = []impl.Val{ref(impl.TCell, at)}
			a.Cycle, a.Top, a.Scan, a.Old, a.Copied = true, l.at, at, o.at, 3
			checkByHand(t, fmt.Sprint("half ", to, ", a box of itself"), a, want)
		}
	}
}

// A table's block: not copied; copied, with the table's slot leading to where it was; and to the copy. What stands in the copy is told, not what was left of it.
func TestShapeOfABlockThatWasCopied(t *testing.T) {
	tab, key, value := ref(impl.TTab, 0), ref(impl.TStr, 3), ref(impl.TStr, 4)
	want := impl.Shape{
		Roots: []impl.Val{tab, ref(impl.TStr, 1), num(8), {}, {}, {}},
		Nodes: []impl.Node{
			{Kind: impl.KTab, Serial: 1, N: 2, Slots: []impl.Val{ref(impl.TBlk, 2)}},
			textNode("a"),
			{Kind: impl.KBlk, Slots: []impl.Val{{}, {}, {}, {}, key, value, num(3), tab}},
			textNode("a"),
			textNode("a value"),
		},
	}
	for to := range 2 {
		s := left(300, to)
		checkByHand(t, "a block that was not copied", s.Arena, want)
		s, block := s.afterBlock()
		checkByHand(t, "a block that was copied", s.Arena, want)
		s.put("table", 2, pairs(ref(impl.TBlk, s.at["old block"]))...)
		checkByHand(t, "a slot that leads to where the block was", s.Arena, want)

		s.put("old block", 1, 0xDEAD, 0xDEAD, 0xDEAD, 0xDEAD)
		copy(s.Words[block+1+4*2+2:], pairs(num(60))) // the value is another one, in the copy alone
		changed := want
		changed.Nodes = slices.Clone(want.Nodes[:4])
		changed.Nodes[2] = impl.Node{Kind: impl.KBlk, Slots: []impl.Val{{}, {}, {}, {}, key, num(60), num(3), tab}}
		checkByHand(t, "another value in the copy", s.Arena, changed)
	}
}

// An object that was changed behind its copying tells what its copy has.
func TestShapeOfWhatWasChangedInACycle(t *testing.T) {
	for to := range 2 {
		a := newArena(300, 1-to)
		l := &layer{a.Words, a.Top}
		box := ref(impl.TCell, l.cell(num(1)))
		holder := ref(impl.TCell, l.cell(box))
		a.Top, a.Roots = l.at, []impl.Val{holder, box, num(2)}
		b := flippedOf(a)
		b, ok := impl.SetCell(b, 1, 2)
		if !ok || b.To != to || !b.Cycle || slotOf(b, b.Roots[0].N, 0).N/300 == to {
			t.Fatal("not what is to be tested", ok)
		}
		checkByHand(t, "a box that was set", b, impl.Shape{
			Roots: []impl.Val{ref(impl.TCell, 0), ref(impl.TCell, 1), num(2)},
			Nodes: []impl.Node{boxNode(ref(impl.TCell, 1)), boxNode(num(2))},
		})
	}
}

// New objects, made while a Cycle runs, lie behind the copies and lead into either half.
func TestShapeOfWhatIsNewInACycle(t *testing.T) {
	for to := range 2 {
		a := newArena(400, to)
		l := &layer{a.Words, a.Top}
		o := &layer{a.Words, (1-to)*400 + 1}
		done := ref(impl.TStr, l.text("done"))
		a.Scan = l.at
		old := ref(impl.TStr, o.forward(done.N, 2))
		left := ref(impl.TStr, o.text("left"))
		co := ref(impl.TCo, l.co(1, [4]uint64{2, 4}, impl.Val{}, old, left, done, left))
		a.Cycle, a.Top, a.Old, a.Copied, a.Serial, a.Roots = true, l.at, o.at, 3, 2, []impl.Val{co, done}
		checkByHand(t, "a new coroutine", a, impl.Shape{
			Roots: []impl.Val{ref(impl.TCo, 0), ref(impl.TStr, 1)},
			Nodes: []impl.Node{
				{Kind: impl.KCo, Serial: 1, N: 2, M: 4, Slots: []impl.Val{{}, ref(impl.TStr, 1), ref(impl.TStr, 2), ref(impl.TStr, 1), ref(impl.TStr, 2)}},
				textNode("done"),
				textNode("left"),
			},
		})
	}
}

// A cycle that is handed in with nothing left to go over has the shape that it has when it is over.
func TestShapeWhereScanIsTop(t *testing.T) {
	for to := range 2 {
		a := chain(300, to, 4)
		said := shapeThere(t, a)
		o := &layer{a.Words, (1-to)*300 + 1}
		o.text("never copied")
		o.forward((to*300)+1, 2)
		a.Cycle, a.Scan, a.Old, a.Copied = true, a.Top, o.at, 3
		checkByHand(t, "Scan is Top", a, said)
	}
}

// One run of calls leaves the same shape, whatever is flipped and copied between.
func TestShapesWhateverWasCopied(t *testing.T) {
	t.Parallel()
	run := func(a impl.Arena, between between) []impl.Shape {
		var told []impl.Shape
		tell := func(out impl.Arena, taken bool) {
			if !taken {
				t.Fatalf("%s between: the call %d is refused", between.name, len(told))
			}
			a = between.do(out)
			told = append(told, shapeThere(t, a))
		}
		done := func(out impl.Arena, code int) { tell(out, code == impl.Done) }
		for i := range cabinetKeys {
			done(impl.SetKey(a, 0, i, (i*5)%cabinetKeys))
		}
		done(impl.NewCell(a, 0, 18))
		done(impl.NewFun(a, 5, []int{18, 18}, 19))
		done(impl.SetKey(a, 0, 19, 0))
		tell(impl.SetCell(a, 18, 19))
		tell(impl.GetKey(a, 0, 3, 20))
		tell(impl.NextKey(a, 0, 17, 20, 21))
		done(impl.PutText(a, "a text more", 20))
		done(impl.JoinText(a, 20, 20, 20))
		done(impl.SetKey(a, 0, 20, 20))
		tell(impl.Load(a, 19, 1, 21))
		done(impl.NewTab(a, 20))
		done(impl.SetKey(a, 20, 20, 0))
		return told
	}
	want := run(cabinet(900, 0), betweens()[0])
	for to := range 2 {
		for stage, a := range stages(cabinet, 900, to) {
			for _, between := range betweens() {
				told := run(a, between)
				if len(told) != len(want) {
					t.Fatal("a run of another length", len(told))
				}
				for i := range told {
					checkLines(t, fmt.Sprint("half ", to, ", ", stage, ", ", between.name, " between, call ", i), told[i], want[i])
				}
			}
		}
	}
}

// To tell the shape forwards nothing: a slot that leads into the other half still does.
func TestTellingTheShapeForwardsNothing(t *testing.T) {
	for to := range 2 {
		for stage, a := range stages(zoo, 400, to) {
			in := roomy(a)
			was := allOf(in)
			impl.ShapeOf(in)
			if !sameArena(whole(in), was) {
				t.Errorf("%s: it is another one", stage)
			}
		}
		begun := stages(zoo, 400, to)["begun"]
		if v := slotOf(begun, begun.Roots[1].N, 0); v.N/400 == to {
			t.Error("the box does not lead into the other half")
		}
	}
}
