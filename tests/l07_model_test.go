package tests

import (
	"fmt"
	"math/rand"
	"slices"
	"testing"

	"loop.example/g00101/impl"
)

// shaper numbers objects by the document's words, from the model of chapter 2 alone: a number is where an object stands in the list of those that were come to.
type shaper struct {
	model
	places []int
}

func (s *shaper) number(v impl.Val) impl.Val {
	if !impl.IsRef(v) {
		return v
	}
	at := s.come(v)
	if !slices.Contains(s.places, at) {
		s.places = append(s.places, at)
	}
	return impl.Val{Tag: v.Tag, N: slices.Index(s.places, at)}
}

func (s *shaper) node(at int) impl.Node {
	h := s.objects[at]
	n := impl.Node{Kind: h.Kind, Serial: h.Serial}
	slots := impl.Slots(h.Kind, h.Size)
	switch h.Kind {
	case impl.KStr:
		n.Text = s.textOf(at)
	case impl.KTab, impl.KFun:
		n.N = int(s.Words[at+1])
	case impl.KCo:
		n.N, n.M = int(s.Words[at+1]), int(s.Words[at+2])
		slots = slots[:1+n.M]
	}
	for _, slot := range slots {
		v, _ := impl.GetVal(s.Words, at+slot)
		n.Slots = append(n.Slots, s.number(v))
	}
	return n
}

func modelShape(a impl.Arena) (impl.Shape, bool) {
	if !modelOk(a) {
		return impl.Shape{}, false
	}
	s := &shaper{model: model{a, map[int]impl.Head{}, map[int]int{}, map[int]int{}}}
	s.point2()
	s.point3()
	var shape impl.Shape
	for _, v := range a.Roots {
		shape.Roots = append(shape.Roots, s.number(v))
	}
	for len(shape.Nodes) < len(s.places) {
		shape.Nodes = append(shape.Nodes, s.node(s.places[len(shape.Nodes)]))
	}
	return shape, true
}

// linesOf tells a shape, all of it: its Roots, then each node.
func linesOf(s impl.Shape) []string {
	lines := []string{fmt.Sprint("roots ", s.Roots)}
	for i, n := range s.Nodes {
		lines = append(lines, fmt.Sprintf("%d: kind %d, serial %d, %d, %d, %q %v", i, n.Kind, n.Serial, n.N, n.M, n.Text, n.Slots))
	}
	return lines
}

// checkLines: a shape is what is wanted, by what both tell and by ShapeSame.
func checkLines(t *testing.T, name string, got impl.Shape, want impl.Shape) {
	t.Helper()
	is, should := linesOf(got), linesOf(want)
	for i := range max(len(is), len(should)) {
		if i >= len(is) || i >= len(should) || is[i] != should[i] {
			t.Fatalf("%s: the shape is\n%q\nwant\n%q\n(the line %d)", name, is, should, i)
		}
	}
	if !impl.ShapeSame(got, want) || !impl.ShapeSame(want, got) {
		t.Fatalf("%s: ShapeSame is false of\n%q", name, is)
	}
}

// valLists are all lists of values that a shape has, as far as their room goes.
func valLists(s impl.Shape) [][]impl.Val {
	lists := [][]impl.Val{s.Roots[:cap(s.Roots)]}
	for _, n := range s.Nodes[:cap(s.Nodes)] {
		lists = append(lists, n.Slots[:cap(n.Slots)])
	}
	return lists
}

// checkOwnShape: no two lists of a shape share memory, nor one with the argument: each is written over, with a value of its own.
func checkOwnShape(t *testing.T, s impl.Shape, in impl.Arena, was impl.Arena) {
	t.Helper()
	lists := valLists(s)
	for i, list := range lists {
		for j := range list {
			list[j] = num(0xBAD + i)
		}
	}
	for i, list := range lists {
		for j := range list {
			if list[j] != num(0xBAD+i) {
				t.Fatalf("the list %d shares memory with another one", i)
			}
		}
	}
	if !sameArena(in, was) {
		t.Fatal("the argument was written into, or the answer shares its memory")
	}
}

// checkShape holds ShapeOf against the model at one right arena, and the shape against that behind each move.
func checkShape(t *testing.T, name string, a impl.Arena) {
	t.Helper()
	in := roomy(a)
	was := allOf(in)
	got, ok := impl.ShapeOf(in)
	want, right := modelShape(a)
	if !ok || !right {
		t.Fatalf("%s: ShapeOf is %v, by the model %v", name, ok, right)
	}
	checkLines(t, name, got, want)
	checkOwnShape(t, got, whole(in), was)
	for _, move := range moves() {
		out := move.do(in)
		now, ok := impl.ShapeOf(out)
		if !ok {
			t.Fatalf("%s: no shape behind %s", name, move.name)
		}
		checkLines(t, name+", behind "+move.name, now, want)
		checkOwn(t, out, whole(in), was)
	}
}

// moves are what leaves the shape: each alone, and some behind each other.
func moves() []between {
	steps := func(n int) func(a impl.Arena) impl.Arena {
		return func(a impl.Arena) impl.Arena { a, _ = impl.CopyStep(a, n); return a }
	}
	collect := func(a impl.Arena) impl.Arena { a, _ = impl.Collect(a); return a }
	return []between{
		{"Flip", flippedOf},
		{"CopyStep 0", steps(0)},
		{"CopyStep 1", steps(1)},
		{"CopyStep 2", steps(2)},
		{"CopyStep 1000", steps(1000)},
		{"Finish", func(a impl.Arena) impl.Arena { a, _ = impl.Finish(a); return a }},
		{"Collect", collect},
		{"Flip and CopyStep 1", func(a impl.Arena) impl.Arena { return steps(1)(flippedOf(a)) }},
		{"Collect twice", func(a impl.Arena) impl.Arena { return collect(collect(a)) }},
		{"Collect and Flip", func(a impl.Arena) impl.Arena { return flippedOf(collect(a)) }},
	}
}

func TestShapesOfTheSamples(t *testing.T) {
	for i, s := range samples() {
		checkShape(t, fmt.Sprint("sample ", i), s.Arena)
	}
}

// Arenas of all kinds of objects that are grown by chance, with circles and garbage, go through cycles while they are changed.
func TestShapesOfWhatHasGrown(t *testing.T) {
	t.Parallel()
	r := rand.New(rand.NewSource(7))
	kinds := map[int]int{}
	flips, ends := 0, 0
	for range 60 {
		a := grown(r)
		for range 15 {
			checkShape(t, "grown", a)
			shape, _ := impl.ShapeOf(a)
			for _, n := range shape.Nodes {
				kinds[n.Kind]++
			}
			ran := a.Cycle
			if !ran {
				a = flippedOf(a)
				flips++
			} else {
				a, _ = impl.CopyStep(a, r.Intn(4))
			}
			if ran && !a.Cycle {
				ends++
			}
			a = changed(r, a)
		}
	}
	if flips < 60 || ends < 60 {
		t.Error("too few cycles:", flips, "begun", ends, "ended")
	}
	for kind := impl.KStr; kind <= impl.KCo; kind++ {
		if kinds[kind] < 50 {
			t.Error("too few nodes of the kind", kind, kinds[kind])
		}
	}
}

// Tables that are written into by chance, with keys and values of all kinds, until room lacks, and then still.
func TestShapesThroughManyCycles(t *testing.T) {
	t.Parallel()
	r := rand.New(rand.NewSource(77))
	for range 4 {
		m := newMuddle(r, 300+r.Intn(400), r.Intn(2))
		for range 100 {
			m.act(t)
			checkShape(t, "by chance", m.Arena)
		}
	}
}

// Arenas that come of chance, right ones among them that no run of the program would leave behind.
func TestShapesOfTurnedSamples(t *testing.T) {
	t.Parallel()
	r := rand.New(rand.NewSource(777))
	right, wrong := 0, 0
	for range 6000 {
		s := stillSample(impl.MinSemi, r.Intn(2))
		if r.Intn(3) > 0 {
			s = cycleSample(impl.MinSemi, s.To)
		}
		for range 1 + r.Intn(2) {
			turnAtRandom(r, &s)
		}
		if modelOk(s.Arena) {
			checkShape(t, "a turned sample", s.Arena)
			right++
			continue
		}
		checkNoShape(t, "a turned sample", s.Arena)
		wrong++
	}
	if right < 500 || wrong < 500 {
		t.Error("too few of either kind:", right, "right", wrong, "wrong")
	}
}
