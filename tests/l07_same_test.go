package tests

import (
	"math"
	"slices"
	"testing"

	"loop.example/g00101/impl"
)

// twinShape is a shape in memory of its own, with spare room behind each list.
func twinShape(s impl.Shape) impl.Shape {
	roots := append(slices.Clone(s.Roots), num(71), num(72))
	nodes := append(slices.Clone(s.Nodes), textNode("spare"), textNode("room"))
	for i, n := range nodes {
		slots := append(slices.Clone(n.Slots), num(73), num(74))
		nodes[i].Slots = slots[:len(n.Slots)]
	}
	return impl.Shape{Roots: roots[:len(s.Roots)], Nodes: nodes[:len(s.Nodes)]}
}

// wholeLines tells a shape with all of its spare room.
func wholeLines(s impl.Shape) []string {
	all := impl.Shape{Roots: s.Roots[:cap(s.Roots)], Nodes: slices.Clone(s.Nodes[:cap(s.Nodes)])}
	for i, n := range all.Nodes {
		all.Nodes[i].Slots = n.Slots[:cap(n.Slots)]
	}
	return linesOf(all)
}

// checkShapes: ShapeSame is what is wanted, either way round, and writes nothing.
func checkShapes(t *testing.T, name string, a impl.Shape, b impl.Shape, want bool) {
	t.Helper()
	a, b = twinShape(a), twinShape(b)
	one, two := wholeLines(a), wholeLines(b)
	if impl.ShapeSame(a, b) != want || impl.ShapeSame(b, a) != want {
		t.Errorf("%s: ShapeSame is %v", name, !want)
	}
	if !impl.ShapeSame(a, a) || !impl.ShapeSame(b, b) {
		t.Errorf("%s: a shape is not the same as itself", name)
	}
	if !slices.Equal(wholeLines(a), one) || !slices.Equal(wholeLines(b), two) {
		t.Errorf("%s: an argument was written into", name)
	}
}

// change is what makes another shape of one, by what it is.
type change struct {
	name string
	do   func(s *impl.Shape)
}

// fieldChanges are those of one field of a node.
func fieldChanges(node int) []change {
	var list []change
	add := func(name string, do func(n *impl.Node)) {
		list = append(list, change{name, func(s *impl.Shape) { do(&s.Nodes[node]) }})
	}
	add("Kind", func(n *impl.Node) { n.Kind++ })
	add("Serial", func(n *impl.Node) { n.Serial++ })
	add("Serial far off", func(n *impl.Node) { n.Serial += 1 << 40 })
	add("N", func(n *impl.Node) { n.N++ })
	add("N by its highest bit", func(n *impl.Node) { n.N += math.MinInt })
	add("M", func(n *impl.Node) { n.M-- })
	add("N and M the other way round", func(n *impl.Node) { n.N, n.M = n.M+1, n.N })
	add("Text", func(n *impl.Node) { n.Text += "\x00" })
	add("Text that is another one", func(n *impl.Node) { n.Text = "another text" })
	add("a slot more", func(n *impl.Node) { n.Slots = append(n.Slots, impl.Val{}) })
	return list
}

// slotChanges are those of the slots of a node that has some.
func slotChanges(node int, slots int) []change {
	var list []change
	for _, i := range []int{0, slots / 2, slots - 1} {
		list = append(list,
			change{"a slot's Tag", func(s *impl.Shape) { s.Nodes[node].Slots[i].Tag++ }},
			change{"a slot's N", func(s *impl.Shape) { s.Nodes[node].Slots[i].N-- }},
		)
	}
	return append(list,
		change{"a slot less", func(s *impl.Shape) { s.Nodes[node].Slots = s.Nodes[node].Slots[:slots-1] }},
		change{"no slots", func(s *impl.Shape) { s.Nodes[node].Slots = nil }},
		change{"a slot less, at the beginning", func(s *impl.Shape) { s.Nodes[node].Slots = s.Nodes[node].Slots[1:] }},
	)
}

// wholeChanges are those of Roots, and of how many there are.
func wholeChanges(s impl.Shape) []change {
	list := []change{
		{"a Root more", func(s *impl.Shape) { s.Roots = append(s.Roots, impl.Val{}) }},
		{"a Root less", func(s *impl.Shape) { s.Roots = s.Roots[:len(s.Roots)-1] }},
		{"no Roots", func(s *impl.Shape) { s.Roots = nil }},
		{"a node more", func(s *impl.Shape) { s.Nodes = append(s.Nodes, impl.Node{}) }},
		{"a node less", func(s *impl.Shape) { s.Nodes = s.Nodes[:len(s.Nodes)-1] }},
		{"a node less, at the beginning", func(s *impl.Shape) { s.Nodes = s.Nodes[1:] }},
		{"no nodes", func(s *impl.Shape) { s.Nodes = nil }},
		{"nothing", func(s *impl.Shape) { *s = impl.Shape{} }},
		{"two nodes the other way round", func(s *impl.Shape) { s.Nodes[0], s.Nodes[1] = s.Nodes[1], s.Nodes[0] }},
		{"two Roots the other way round", func(s *impl.Shape) { s.Roots[0], s.Roots[1] = s.Roots[1], s.Roots[0] }},
		{"a slot that goes to the next node", func(s *impl.Shape) {
			last := len(s.Nodes[0].Slots) - 1
			s.Nodes[1].Slots = slices.Insert(s.Nodes[1].Slots, 0, s.Nodes[0].Slots[last])
			s.Nodes[0].Slots = s.Nodes[0].Slots[:last]
		}},
	}
	for i := range s.Roots {
		list = append(list,
			change{"a Root's Tag", func(s *impl.Shape) { s.Roots[i].Tag++ }},
			change{"a Root's N", func(s *impl.Shape) { s.Roots[i].N++ }},
			change{"a Root's N by its highest bit", func(s *impl.Shape) { s.Roots[i].N += math.MinInt }},
		)
	}
	return list
}

// Shapes that differ in one thing only, one for each field of a node, a Root, a slot, and how many there are of each.
func TestShapesThatDiffer(t *testing.T) {
	s := zooShape()
	changes := wholeChanges(s)
	for i, n := range s.Nodes {
		changes = append(changes, fieldChanges(i)...)
		if len(n.Slots) > 0 {
			changes = append(changes, slotChanges(i, len(n.Slots))...)
		}
	}
	for _, c := range changes {
		other := twinShape(s)
		c.do(&other)
		checkShapes(t, c.name, s, other, false)
	}
}

func TestShapesThatAreTheSame(t *testing.T) {
	for _, s := range []impl.Shape{{}, zooShape(), {Roots: nones(3)}, {Nodes: []impl.Node{textNode("")}}} {
		checkShapes(t, "twins", s, twinShape(s), true)
	}
	empty := impl.Shape{Roots: []impl.Val{}, Nodes: []impl.Node{}}
	checkShapes(t, "an empty list and nil", impl.Shape{}, empty, true)
	bare, listed := impl.Shape{Nodes: []impl.Node{textNode("a")}}, impl.Shape{Nodes: []impl.Node{textNode("a")}}
	listed.Nodes[0].Slots = []impl.Val{}
	checkShapes(t, "slots that are an empty list and nil", bare, listed, true)
	if !impl.ShapeSame(bare, listed) || !impl.ShapeSame(impl.Shape{}, empty) {
		t.Error("an empty list is another value than nil")
	}
}

// Shapes of no arena are compared number by number as well.
func TestShapesOfNoArena(t *testing.T) {
	odd := impl.Shape{
		Roots: []impl.Val{{Tag: -1, N: math.MinInt}, {Tag: 99, N: 7}, ref(impl.TCell, -4), ref(impl.TBlk, 1000)},
		Nodes: []impl.Node{
			{Kind: -3, Serial: math.MaxInt, N: -1, M: math.MinInt, Text: "a", Slots: []impl.Val{{Tag: 50, N: 50}, {Tag: math.MaxInt}}},
			{Text: "\xff\x00", Slots: nones(500)},
		},
	}
	checkShapes(t, "twins", odd, twinShape(odd), true)
	changes := append(wholeChanges(odd), append(fieldChanges(0), fieldChanges(1)...)...)
	changes = append(changes, append(slotChanges(0, 2), slotChanges(1, 500)...)...)
	for _, c := range changes {
		other := twinShape(odd)
		c.do(&other)
		checkShapes(t, c.name, odd, other, false)
	}
}

// Texts are compared byte by byte.
func TestShapesOfOtherTexts(t *testing.T) {
	texts := []string{"", "a", "A", "ab", "a\x00", "a\x00b", "\xff", "\xfe", "é", "\xc3", "\xef\xbf\xbd", motley(160, 0), motley(160, 1)}
	for i, one := range texts {
		for j, two := range texts {
			a, b := impl.Shape{Nodes: []impl.Node{textNode(one)}}, impl.Shape{Nodes: []impl.Node{textNode(two)}}
			checkShapes(t, "texts", a, b, i == j)
		}
	}
}

// Arenas that say the same but for one thing have shapes that are not the same; those that say the same at other places have.
func TestShapesOfArenasThatDiffer(t *testing.T) {
	for to := range 2 {
		base := stillSample(300, to)
		said := shapeThere(t, base.Arena)
		other := stillSample(impl.MaxSemi, 1-to)
		checkShapes(t, "other places", said, shapeThere(t, other.Arena), true)
		turns := []turn{
			{"a Root", func(s *sample) { s.Roots[2] = num(8) }},
			{"a Root less", func(s *sample) { s.Roots = s.Roots[:8] }},
			{"a text's byte", func(s *sample) { s.put("nine", 3, 0xfe) }},
			{"a proto", func(s *sample) { s.put("fun", 1, 254) }},
			{"a box", func(s *sample) { s.put("box", 1, pairs(num(-6))...) }},
			{"a box of a bool", func(s *sample) { s.put("box", 1, pairs(yes())...) }},
			{"a status", func(s *sample) { s.put("co", 1, 3) }},
			{"a longer stack", func(s *sample) { s.put("co", 2, 4) }},
			{"a value on the stack", func(s *sample) { s.put("co", 7, pairs(num(1))...) }},
			{"who has resumed", func(s *sample) { s.put("co", 5, pairs(ref(impl.TCo, s.at["co"]))...) }},
			{"a value in the block", func(s *sample) { s.put("block", 3, pairs(num(1))...) }},
			{"a dead entry that is none any more", func(s *sample) { s.put("block", 7, pairs(num(1))...) }},
			{"a serial", func(s *sample) {
				s.Serial = 9
				s.put("co", 0, packed(impl.Head{Kind: impl.KCo, Size: 126, Serial: 8}))
			}},
			{"one box twice", func(s *sample) { s.put("fun", 4, pairs(ref(impl.TCell, s.at["boxbox"]))...) }},
		}
		for _, turn := range turns {
			s := stillSample(300, to)
			turn.do(&s)
			checkShapes(t, turn.name, said, shapeThere(t, s.Arena), false)
		}
		same := []turn{
			{"the serial that comes next", func(s *sample) { s.Serial = 100 }},
			{"garbage", func(s *sample) { s.put("loose", 15, pairs(num(77))...) }},
			{"where it goes on", func(s *sample) { s.put("co", 3, 0, 0) }},
			{"a text that is garbage", func(s *sample) { s.put("eight", 2, 0) }},
		}
		for _, turn := range same {
			s := stillSample(300, to)
			turn.do(&s)
			checkShapes(t, turn.name, said, shapeThere(t, s.Arena), true)
		}
	}
}
