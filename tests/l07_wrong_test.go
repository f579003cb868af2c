package tests

import (
	"testing"

	"loop.example/g00101/impl"
)

// checkNoShape: of what is no arena there is no shape, and nothing is written into it.
func checkNoShape(t *testing.T, name string, a impl.Arena) {
	t.Helper()
	in := roomy(a)
	was := allOf(in)
	s, ok := impl.ShapeOf(in)
	if ok || len(s.Roots) != 0 || len(s.Nodes) != 0 || !impl.ShapeSame(s, impl.Shape{}) {
		t.Errorf("%s: the shape is %v, %v", name, linesOf(s), ok)
	}
	if !sameArena(whole(in), was) {
		t.Errorf("%s: the argument was written into", name)
	}
}

// One for each point of ArenaOk; checkRefused asks the same of all other wrong ones.
func TestShapesOfWrongArenas(t *testing.T) {
	for _, s := range samples() { // the same call is taken where the arena is right
		if shape, ok := impl.ShapeOf(s.Arena); !ok || len(shape.Roots) != len(s.Roots) || len(shape.Nodes) == 0 {
			t.Error("a right arena has no shape")
		}
	}
	points := map[byte]int{}
	for _, wrong := range wrongArenas() {
		checkNoShape(t, wrong.name, wrong.Arena)
		if len(wrong.name) > 6 {
			points[wrong.name[6]]++
		}
	}
	for point := byte('1'); point <= '5'; point++ {
		if points[point] == 0 {
			t.Errorf("no arena is wrong by the point %c", point)
		}
	}
}

// What is wrong counts wherever it stands: also in objects that can't be reached, in either half, and without Roots.
func TestShapesOfWrongGarbage(t *testing.T) {
	for to := range 2 {
		still := stillSample(300, to)
		still.Roots = nil
		if s, ok := impl.ShapeOf(still.Arena); !ok || len(s.Nodes) != 0 {
			t.Error("without Roots there are nodes", s.Nodes)
		}
		still.put("loose", 1, pairs(ref(impl.TCell, still.at["box"]))...)
		checkNoShape(t, "a block with a box, without Roots", still.Arena)
		running := cycleSample(300, to)
		running.Roots = nil
		if s, ok := impl.ShapeOf(running.Arena); !ok || len(s.Nodes) != 0 {
			t.Error("without Roots there are nodes", s.Nodes)
		}
		running.put("old co", 1, 5)
		checkNoShape(t, "a status that is none, without Roots", running.Arena)
	}
}

// What stands on a stack behind its second word makes the arena a wrong one: no slot is left out that has something.
func TestShapesOfWrongStacks(t *testing.T) {
	for to := range 2 {
		for _, top := range []uint64{0, 1, 2} {
			s := stillSample(300, to) // its stack has three values
			s.put("co", 2, top, top)
			checkNoShape(t, "values behind the second word", s.Arena)
		}
	}
}
