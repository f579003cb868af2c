package tests

import (
	"fmt"
	"math"
	"slices"
	"testing"

	"loop.example/g00101/impl"
)

// checkShut: what is no arena is handed back by all doors, whatever Roots they are asked for.
func checkShut(t *testing.T, name string, a impl.Arena) {
	t.Helper()
	in := roomy(a)
	was := allOf(in)
	check := func(call string, out impl.Arena, refused bool) {
		t.Helper()
		if !refused || !sameArena(out, a) {
			t.Errorf("%s: %s does not hand it back", name, call)
		}
		checkOwn(t, out, whole(in), was)
	}
	for r := range max(1, len(a.Roots)) {
		out, ok := impl.Load(in, r, 0, 0)
		check("Load", out, !ok)
		out, ok = impl.SetCell(in, r, 0)
		check("SetCell", out, !ok)
		if p, ok := impl.ProtoOf(in, r); ok || p != 0 {
			t.Errorf("%s: ProtoOf is %d", name, p)
		}
		if n := impl.SerialOf(in, r); n != 0 {
			t.Errorf("%s: SerialOf is %d", name, n)
		}
		if impl.SameRoots(in, r, r) {
			t.Errorf("%s: SameRoots", name)
		}
	}
	out, code := impl.NewCell(in, 0, 0)
	check("NewCell", out, code == impl.Bad)
	out, code = impl.NewFun(in, 1, nil, 0)
	check("NewFun", out, code == impl.Bad)
}

// One for each point of ArenaOk; checkRefused asks the same of all other wrong ones.
func TestDoorsOfWrongArenas(t *testing.T) {
	for _, wrong := range wrongArenas() {
		checkShut(t, wrong.name, wrong.Arena)
	}
}

// checkBad: each call hands back an arena that is right, and refuses.
func checkBad(t *testing.T, a impl.Arena, calls map[string]func(in impl.Arena) (impl.Arena, bool)) {
	t.Helper()
	in := roomy(a)
	was := allOf(in)
	if !impl.ArenaOk(a) {
		t.Fatal("the arena is not right")
	}
	for name, call := range calls {
		out, done := call(in)
		if done || !sameArena(out, a) {
			t.Errorf("%s is not refused, or not handed back", name)
		}
		checkOwn(t, out, whole(in), was)
	}
}

// newCell and newFun tell whether the code is any but Bad.
func newCell(a impl.Arena, from int, into int) (impl.Arena, bool) {
	out, code := impl.NewCell(a, from, into)
	return out, code != impl.Bad
}

func newFun(a impl.Arena, proto int, cells []int, into int) (impl.Arena, bool) {
	out, code := impl.NewFun(a, proto, cells, into)
	return out, code != impl.Bad
}

func TestRootsThatAreNone(t *testing.T) {
	for _, s := range samples() {
		box := slices.IndexFunc(s.Roots, func(v impl.Val) bool { return v.Tag == impl.TCell })
		for _, w := range wrongRoots(len(s.Roots)) {
			checkBad(t, s.Arena, map[string]func(in impl.Arena) (impl.Arena, bool){
				"Load from":    func(in impl.Arena) (impl.Arena, bool) { return impl.Load(in, w, 0, 0) },
				"Load into":    func(in impl.Arena) (impl.Arena, bool) { return impl.Load(in, box, 0, w) },
				"NewCell from": func(in impl.Arena) (impl.Arena, bool) { return newCell(in, w, 0) },
				"NewCell into": func(in impl.Arena) (impl.Arena, bool) { return newCell(in, 0, w) },
				"SetCell":      func(in impl.Arena) (impl.Arena, bool) { return impl.SetCell(in, w, 0) },
				"SetCell from": func(in impl.Arena) (impl.Arena, bool) { return impl.SetCell(in, box, w) },
				"NewFun of":    func(in impl.Arena) (impl.Arena, bool) { return newFun(in, 0, []int{box, w}, 0) },
				"NewFun into":  func(in impl.Arena) (impl.Arena, bool) { return newFun(in, 0, nil, w) },
			})
			if n, ok := impl.ProtoOf(s.Arena, w); ok || n != 0 || impl.SerialOf(s.Arena, w) != 0 {
				t.Errorf("the Root %d is a function", w)
			}
			if impl.SameRoots(s.Arena, w, 0) || impl.SameRoots(s.Arena, 0, w) || impl.SameRoots(s.Arena, w, w) {
				t.Errorf("the Root %d is the same as another one", w)
			}
		}
	}
}

// Of a right arena without Roots nothing can be asked.
func TestWithoutRoots(t *testing.T) {
	a, _ := impl.NewArena(256, 0)
	checkBad(t, a, map[string]func(in impl.Arena) (impl.Arena, bool){
		"Load":    func(in impl.Arena) (impl.Arena, bool) { return impl.Load(in, 0, 0, 0) },
		"NewCell": func(in impl.Arena) (impl.Arena, bool) { return newCell(in, 0, 0) },
		"SetCell": func(in impl.Arena) (impl.Arena, bool) { return impl.SetCell(in, 0, 0) },
		"NewFun":  func(in impl.Arena) (impl.Arena, bool) { return newFun(in, 0, nil, 0) },
	})
	if _, ok := impl.ProtoOf(a, 0); ok || impl.SerialOf(a, 0) != 0 || impl.SameRoots(a, 0, 0) {
		t.Error("something is told of a Root that is none")
	}
}

// kindsAtHand has a Root of each kind that a Root may lead to, by name, in each stage of a cycle.
func kindsAtHand(semi int, to int) []sample {
	s := sample{newArena(semi, to), map[string]int{}}
	l := &layer{s.Words, s.Top}
	add := func(name string, v impl.Val) {
		s.at[name] = len(s.Roots)
		s.Roots = append(s.Roots, v)
	}
	text := ref(impl.TStr, l.text("a text"))
	box := ref(impl.TCell, l.cell(text))
	block := l.block(4, entry{1, num(1), num(10)})
	add("text", text)
	add("box", box)
	add("table", ref(impl.TTab, l.table(7, 1, ref(impl.TBlk, block))))
	add("none", ref(impl.TTab, l.table(8, 0, impl.Val{})))
	add("bare", ref(impl.TFun, l.fun(3, 0)))
	add("one", ref(impl.TFun, l.fun(4, 255, box)))
	add("twelve", ref(impl.TFun, l.fun(5, 1, slices.Repeat([]impl.Val{box}, impl.MaxUps)...)))
	add("co", ref(impl.TCo, l.co(6, [4]uint64{1, 2, 0, 0}, impl.Val{}, box, text)))
	add("nil", impl.Val{})
	add("true", yes())
	add("number", num(box.N)) // it is the place of a box in one stage
	add("lib", impl.Val{Tag: impl.TLib, N: 1})
	s.Top, s.Serial = l.at, 9
	flipped, just := s, s
	flipped.Arena, _ = impl.Flip(s.Arena)
	just.Arena, _ = impl.Flip(s.Arena)
	for {
		next, _ := impl.CopyStep(just.Arena, 1)
		if !next.Cycle {
			break
		}
		just.Arena = next
	}
	return []sample{s, flipped, just}
}

// What can be loaded: slots -1, 0, the last one and one behind it, of each kind.
func TestSlotsThatCanBeLoaded(t *testing.T) {
	counts := map[string]int{"text": 0, "box": 1, "table": 0, "none": 0, "bare": 0, "one": 1, "twelve": 12, "co": 61, "nil": 0, "true": 0, "number": 0, "lib": 0}
	for to := range 2 {
		for stage, s := range kindsAtHand(300, to) {
			for name, n := range counts {
				r := s.at[name]
				for _, slot := range []int{math.MinInt, -2, -1, 0, 1, n - 1, n, n + 1, 128, math.MaxInt / 2, math.MaxInt} {
					out, ok := impl.Load(s.Arena, r, slot, s.at["lib"])
					if ok != (slot >= 0 && slot < n) {
						t.Errorf("stage %d: Load of %s, slot %d is %v", stage, name, slot, ok)
					}
					if !ok && !sameArena(out, s.Arena) {
						t.Errorf("stage %d: Load of %s, slot %d does not hand it back", stage, name, slot)
					}
				}
			}
		}
	}
}

func TestSetCellOfWhatIsNoBox(t *testing.T) {
	for to := range 2 {
		for stage, s := range kindsAtHand(300, to) {
			for name, r := range s.at {
				out, ok := impl.SetCell(s.Arena, r, s.at["lib"])
				if ok != (name == "box") || !ok && !sameArena(out, s.Arena) {
					t.Errorf("stage %d: SetCell of %s is %v", stage, name, ok)
				}
			}
		}
	}
}

func TestProtosAndCellsThatAreNone(t *testing.T) {
	for to := range 2 {
		for stage, s := range kindsAtHand(300, to) {
			box := s.at["box"]
			calls := map[string]func(in impl.Arena) (impl.Arena, bool){
				"thirteen cells": func(in impl.Arena) (impl.Arena, bool) {
					return newFun(in, 0, slices.Repeat([]int{box}, impl.MaxUps+1), 0)
				},
				"many cells": func(in impl.Arena) (impl.Arena, bool) { return newFun(in, 0, make([]int, 5000), 0) },
			}
			for _, proto := range []int{math.MinInt, -256, -1, 256, 257, math.MaxInt, 1 << 32} {
				calls[fmt.Sprint("proto ", proto)] = func(in impl.Arena) (impl.Arena, bool) { return newFun(in, proto, []int{box}, 0) }
			}
			for name, r := range s.at {
				if name == "box" {
					continue
				}
				calls["ahead of a box: "+name] = func(in impl.Arena) (impl.Arena, bool) { return newFun(in, 0, []int{r, box}, 0) }
				calls["behind a box: "+name] = func(in impl.Arena) (impl.Arena, bool) { return newFun(in, 0, []int{box, r}, 0) }
			}
			t.Log("stage", stage)
			checkBad(t, s.Arena, calls)
		}
	}
}
