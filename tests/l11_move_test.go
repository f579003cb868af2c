package tests

import (
	"fmt"
	"math"
	"math/rand"
	"testing"

	"loop.example/g00101/impl"
)

// checkMoved holds one of the three calls against the model of its arena: the machine is right still, all but its arena is as it was, and what can be reached is the same.
func checkMoved(t *testing.T, name string, m impl.Machine, move func(m impl.Machine) (impl.Machine, any), model func(a impl.Arena) (impl.Arena, any)) impl.Machine {
	t.Helper()
	in, all := spareMachine(m)
	before := all()
	out, got := move(in)
	arena, want := model(m.Arena)
	if got != want || !sameArena(out.Arena, arena) {
		t.Fatalf("%s answers %v, want %v:\n%+v\nwant\n%+v\nof\n%+v", name, got, want, out.Arena, arena, m.Arena)
	}
	if !sameRest(out, m) {
		t.Fatalf("%s: something beside the arena is another one:\n%+v\nwas\n%+v", name, out, m)
	}
	if !impl.MachineOk(out) || !modelMachineOk(out) {
		t.Fatalf("%s: the machine is not right:\n%+v", name, out)
	}
	checkStays(t, name, out.Arena, taleOf(m.Arena))
	again, _ := move(in)
	checkApart(t, name, out, again, in)
	wipe(again)
	if all() != before || !sameArena(out.Arena, arena) || !sameRest(out, m) {
		t.Fatalf("%s: the argument was written into, or an answer shares memory", name)
	}
	return out
}

func checkFlipNow(t *testing.T, m impl.Machine) impl.Machine {
	t.Helper()
	return checkMoved(t, "FlipNow", m,
		func(m impl.Machine) (impl.Machine, any) { out, ok := impl.FlipNow(m); return out, ok },
		func(a impl.Arena) (impl.Arena, any) { out, ok := modelFlip(a); return out, ok })
}

func checkCopyNow(t *testing.T, m impl.Machine, n int) impl.Machine {
	t.Helper()
	return checkMoved(t, fmt.Sprint("CopyNow ", n), m,
		func(m impl.Machine) (impl.Machine, any) { out, gone := impl.CopyNow(m, n); return out, gone },
		func(a impl.Arena) (impl.Arena, any) { out, gone := modelStep(a, n); return out, gone })
}

func checkCollectNow(t *testing.T, m impl.Machine) impl.Machine {
	t.Helper()
	out := checkMoved(t, "CollectNow", m,
		func(m impl.Machine) (impl.Machine, any) { out, ok := impl.CollectNow(m); return out, ok },
		func(a impl.Arena) (impl.Arena, any) { out, ok := modelCollect(a); return out, ok })
	checkJust(t, "CollectNow", out.Arena)
	return out
}

// checkMoves: each of the three, from here.
func checkMoves(t *testing.T, m impl.Machine) {
	t.Helper()
	checkFlipNow(t, m)
	for _, n := range []int{math.MinInt, -1, 0, 1, 2, 3, 1000, math.MaxInt} {
		checkCopyNow(t, m, n)
	}
	checkCollectNow(t, m)
}

// The cycle of a machine that was booted, by hand: the coroutine is copied by the flip, the function by the first step.
func TestCycleOfABootedMachine(t *testing.T) {
	for _, semi := range []int{256, 300, 4000} {
		m := booted(t, "local a = 1; local b = 2;", semi)
		if x, n := impl.CopyNow(m, 5); n != 0 || !sameMachine(x, m) {
			t.Error("a step without a cycle", n)
		}
		x, ok := impl.FlipNow(m)
		if !ok || x.To != 1 || !x.Cycle || x.Scan != semi+1 || x.Top != semi+1+127 || x.Old != 130 || x.Copied != 127 || x.Serial != 3 {
			t.Fatalf("flip %v: %+v", ok, x.Arena)
		}
		if x.Roots[0] != ref(impl.TCo, semi+1) || x.Words[3] != 1<<63+uint64(semi)+1 || x.Words[semi+1+12] != 1 {
			t.Error("the coroutine", x.Roots, x.Words[3], x.Words[semi+1+12])
		}
		if again, ok := impl.FlipNow(x); ok || !sameMachine(again, x) {
			t.Error("flipped twice", ok)
		}
		for _, n := range []int{math.MinInt, -1, 0} {
			if same, gone := impl.CopyNow(x, n); gone != 0 || !sameMachine(same, x) {
				t.Error("no step", gone)
			}
		}
		y, n := impl.CopyNow(x, 1)
		if n != 1 || !y.Cycle || y.Scan != semi+128 || y.Top != semi+130 || y.Copied != 129 || y.Words[semi+1+12] != uint64(semi+128) {
			t.Fatalf("the first step %d: %+v", n, y.Arena)
		}
		z, n := impl.CopyNow(y, 7)
		if n != 1 || z.Cycle || z.Scan != 0 || z.Old != 0 || z.Copied != 0 || z.Top != semi+130 || z.To != 1 {
			t.Fatalf("the last step %d: %+v", n, z.Arena)
		}
		for name, from := range map[string]impl.Machine{"booted": m, "flipped": x, "halfway": y, "over": z} {
			c, ok := impl.CollectNow(from)
			if !ok || c.Cycle || c.Top-c.To*semi != 130 || !impl.MachineOk(c) || !sameRest(c, m) {
				t.Errorf("%s: collected %v: %+v", name, ok, c.Arena)
			}
			checkMoves(t, from)
		}
	}
}

// A machine whose first Root leads nowhere: a cycle is over at once.
func TestCycleOfNothing(t *testing.T) {
	for _, first := range []impl.Val{{}, num(3), yes(), {Tag: impl.TLib, N: 4}} {
		for to := range 2 {
			m := machineIn(stillSample(300, to).Arena, first)
			x := checkFlipNow(t, m)
			if x.Cycle || x.To == to || x.Top != x.To*300+1 {
				t.Errorf("%v: flipped into %+v", first, x.Arena)
			}
			checkMoves(t, x)
			checkMoves(t, m)
		}
	}
}

func TestMovesOfRightMachines(t *testing.T) {
	for _, m := range rightMachines(t) {
		checkMoves(t, m)
	}
}

// A cycle that comes with nothing left to go over is over ahead of the first step; without a step it runs on.
func TestMovesWhereScanIsTop(t *testing.T) {
	m := booted(t, "", 256)
	m, _ = impl.FlipNow(m)
	m, _ = impl.CopyNow(m, 1)
	m.Scan = m.Top
	checkMachine(t, "nothing left to go over", m, true)
	if x, n := impl.CopyNow(m, 0); n != 0 || !x.Cycle {
		t.Error("no step", n, x.Cycle)
	}
	if x, n := impl.CopyNow(m, 1); n != 0 || x.Cycle {
		t.Error("a step", n, x.Cycle)
	}
	checkMoves(t, m)
}

// roam does one of the three by chance.
func roam(t *testing.T, r *rand.Rand, m impl.Machine) impl.Machine {
	t.Helper()
	switch r.Intn(8) {
	case 0, 1, 2:
		return checkFlipNow(t, m)
	case 3:
		return checkCollectNow(t, m)
	}
	return checkCopyNow(t, m, r.Intn(6)-1)
}

// Promise 11: booted and then flipped, copied in steps of drawn numbers and collected in any order, a machine is right and all else of it is as it was.
func TestMachinesRoam(t *testing.T) {
	t.Parallel()
	r := rand.New(rand.NewSource(114))
	flips, ends := 0, 0
	for range 40 {
		module, code, _ := impl.Compile(someProgram(r, 1+r.Intn(80), 1+r.Intn(5)).tree())
		if code != impl.CodDone {
			continue
		}
		first := bootOf(t, module, impl.MinSemi+r.Intn(800))
		m := first
		for range 25 {
			was := m.Cycle
			m = roam(t, r, m)
			if m.Cycle && !was {
				flips++
			}
			if was && !m.Cycle {
				ends++
			}
			if !sameRest(m, first) {
				t.Fatal("something beside the arena is another one")
			}
		}
		checkStays(t, "behind all", m.Arena, taleOf(first.Arena))
	}
	if flips < 50 || ends < 50 {
		t.Error("too few cycles:", flips, "begun", ends, "ended")
	}
}

// fed is a machine whose arena was changed as a program would: things are made in Roots that are free, some go onto the stack, and the Roots are nothing again.
func fed(r *rand.Rand, m impl.Machine) impl.Machine {
	a := m.Arena
	for range 1 + r.Intn(3) {
		switch r.Intn(4) {
		case 0:
			a, _ = impl.NewTab(a, 1)
		case 1:
			a, _ = impl.PutText(a, someText(r), 1)
		case 2:
			a, _ = impl.NewCell(a, 0, 1)
		case 3:
			a, _ = impl.NewFun(a, r.Intn(256), nil, 1)
		}
		co := a.Roots[0].N
		if top := int(a.Words[co+2]); a.Roots[0].Tag == impl.TCo && top < 60 {
			copy(a.Words[co+7+2*top:], pairs(a.Roots[1]))
			a.Words[co+2]++
		}
	}
	a, _ = impl.SetRoot(a, 1, impl.Val{})
	m.Arena = a
	return m
}

// The same of machines whose stacks grow between, until room lacks or the stack is full.
func TestFedMachinesRoam(t *testing.T) {
	t.Parallel()
	r := rand.New(rand.NewSource(115))
	full := 0
	for range 25 {
		m := bootOf(t, topOf(r.Intn(21)), impl.MinSemi+r.Intn(500))
		m.Out = []string{someText(r)}
		for range 30 {
			m = fed(r, m)
			if !impl.MachineOk(m) {
				t.Fatalf("what was fed is not right: %+v", m)
			}
			m = roam(t, r, m)
		}
		if m.Words[m.Roots[0].N+2] == 60 {
			full++
		}
	}
	if full < 5 {
		t.Error("only", full, "stacks are full")
	}
}

// The same of machines whose arenas come of chance, with all kinds of objects.
func TestMachinesOfWhatHasGrownRoam(t *testing.T) {
	t.Parallel()
	r := rand.New(rand.NewSource(116))
	for range 60 {
		m := someMachine(r)
		checkMoves(t, m)
		for range 12 {
			m = roam(t, r, m)
		}
	}
}

// A flip, a step and a collection leave the shape of a machine's arena.
func TestShapesOfMachines(t *testing.T) {
	for name, m := range rightMachines(t) {
		want, ok := impl.ShapeOf(m.Arena)
		if !ok {
			t.Fatal(name, "has no shape")
		}
		x, _ := impl.FlipNow(m)
		y, _ := impl.CopyNow(x, 1)
		z, _ := impl.CollectNow(y)
		for _, out := range []impl.Machine{x, y, z} {
			if got, ok := impl.ShapeOf(out.Arena); !ok || !impl.ShapeSame(got, want) {
				t.Errorf("%s: another shape", name)
			}
		}
	}
}

// Lists of the argument that share memory share none in the answer.
func TestMovedMachinesShareNothing(t *testing.T) {
	texts := []string{"one", "two"}
	code := ended(ins(impl.OText, 1))
	ups := []impl.Up{{Local: true}}
	module := impl.Module{
		Protos: []impl.Proto{{Code: code}, {Ups: ups, Code: code}, {Ups: ups, Code: code[1:]}},
		Texts:  texts,
	}
	m := bootOf(t, module, impl.MinSemi)
	checkApart(t, "Boot", m)
	m.Module, m.Out = module, texts
	for _, steps := range []int{0, -1} {
		m.Steps = steps // right at first, then wrong
		x, _ := impl.FlipNow(m)
		y, _ := impl.CopyNow(m, 1)
		z, _ := impl.CollectNow(m)
		checkApart(t, fmt.Sprint("Steps ", steps), x, y, z)
		for _, out := range []impl.Machine{x, y, z} {
			if !sameRest(out, m) {
				t.Error("another machine")
			}
		}
	}
}
