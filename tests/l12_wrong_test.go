package tests

import (
	"fmt"
	"math"
	"math/rand"
	"slices"
	"strings"
	"testing"

	"loop.example/g00101/impl"
)

// checkNoSteps: a machine that is not right is handed back by all, in memory of its own, and nothing is told of it.
func checkNoSteps(t *testing.T, name string, m impl.Machine) {
	t.Helper()
	if impl.MachineOk(m) {
		t.Fatal(name, "is right")
	}
	in, all := spareMachine(m)
	before := all()
	check := func(call string, out impl.Machine, refused bool) {
		t.Helper()
		if !refused || !sameMachine(out, m) {
			t.Errorf("%s: %s does not hand it back", name, call)
		}
		checkApart(t, name+": "+call, out, in)
		wipe(out)
		if all() != before {
			t.Fatalf("%s: %s has written into it", name, call)
		}
	}
	out, ok := impl.Step(in)
	check("Step", out, !ok)
	for _, fuel := range []int{math.MinInt, -1, 0, 1, 4000, 4001} {
		out, code := impl.RunMachine(in, fuel)
		check(fmt.Sprint("RunMachine ", fuel), out, code == 0)
	}
	if n := impl.DeepOf(in); n != 0 {
		t.Error(name, "is deep", n)
	}
	if list := impl.Statuses(in); len(list) != 0 {
		t.Error(name, "has statuses", list)
	}
	if all() != before {
		t.Fatalf("%s was written into", name)
	}
	checkNothingSeen(t, name, m)
}

func TestStepsOfWrongMachines(t *testing.T) {
	checkNoSteps(t, "nothing", impl.Machine{})
	turns := []machineTurn{
		{"Steps below 0", func(m *impl.Machine) { m.Steps = -1 }},
		{"State 3", func(m *impl.Machine) { m.State = 3 }},
		{"State -1", func(m *impl.Machine) { m.State = -1 }},
		{"201 texts", func(m *impl.Machine) { m.Out = repeated(201, "x") }},
		{"no Roots", func(m *impl.Machine) { m.Roots = nil }},
		{"5 Roots", func(m *impl.Machine) { m.Roots = m.Roots[:5] }},
		{"7 Roots", func(m *impl.Machine) { m.Roots = append(slices.Clone(m.Roots), impl.Val{}) }},
		{"something in a register", func(m *impl.Machine) { m.Roots[5] = num(1) }},
		{"a block in the Root 0", func(m *impl.Machine) { m.Roots[0].Tag = impl.TBlk }},
		{"a place too far", func(m *impl.Machine) { m.Roots[0].N = len(m.Words) }},
		{"a word less", func(m *impl.Machine) { m.Words = m.Words[1:] }},
		{"another Top", func(m *impl.Machine) { m.Top++ }},
		{"another Serial", func(m *impl.Machine) { m.Serial = 1 }},
		{"a Scan without a cycle, or one that is none", func(m *impl.Machine) { m.Scan++ }},
		{"no module", func(m *impl.Machine) { m.Module = impl.Module{} }},
	}
	for name, module := range wrongModules() {
		turns = append(turns, machineTurn{name, func(m *impl.Machine) { m.Module = module }})
	}
	for _, turn := range turns {
		for name, m := range rightMachines(t) {
			m.State = 0
			turn.do(&m)
			checkNoSteps(t, turn.name+", "+name, m)
		}
	}
}

func TestStepsOfWrongArenas(t *testing.T) {
	for to := range 2 {
		for _, turn := range measureTurns() {
			s := cycleSample(300, to)
			turn.do(&s)
			m := machineIn(s.Arena, impl.Val{})
			m.State = 0
			if len(s.Roots) > impl.MaxRoots {
				m.Roots = s.Roots
			}
			checkNoSteps(t, turn.name, m)
		}
	}
	for _, a := range wrongArenas() {
		m := machineIn(a.Arena, impl.Val{})
		m.State = 0
		if !impl.MachineOk(m) {
			checkNoSteps(t, a.name, m)
		}
	}
}

// checkSteps: nothing is written into a machine that is stepped, run or looked at, and no two answers share memory.
func checkSteps(t *testing.T, name string, m impl.Machine, fuel int) {
	t.Helper()
	in, all := spareMachine(m)
	before := all()
	one, ok := impl.Step(in)
	again, _ := impl.Step(in)
	ran, code := impl.RunMachine(in, fuel)
	list := impl.Statuses(in)
	deep, twin := impl.DeepOf(in), impl.Statuses(in)
	if all() != before {
		t.Fatalf("%s: written into:\n%s\nwas\n%s", name, all(), before)
	}
	checkApart(t, name, in, one, again, ran)
	want, yes := impl.Step(m)
	end, answer := impl.RunMachine(m, fuel)
	wipe(again)
	if ok != yes || !sameMachine(one, want) || code != answer || !sameMachine(ran, end) {
		t.Fatalf("%s: it hangs on something else", name)
	}
	wipe(one)
	wipe(ran)
	clear(list[:cap(list)])
	if all() != before || !slices.Equal(twin, impl.Statuses(m)) || deep != impl.DeepOf(m) {
		t.Fatalf("%s: an answer shares memory", name)
	}
}

func TestSteppedMachinesStay(t *testing.T) {
	t.Parallel()
	r := rand.New(rand.NewSource(127))
	for range 40 {
		module, text := someModule(r, 3+r.Intn(8))
		m := bootOf(t, module, impl.MinSemi+r.Intn(400))
		for range 12 {
			m, _ = impl.RunMachine(m, r.Intn(12))
			m = movedBy(r, m)
			checkSteps(t, text, m, r.Intn(30))
		}
	}
	for range 150 {
		m := looseMachine(r)
		checkSteps(t, "a loose machine", movedBy(r, m), r.Intn(10))
	}
}

// Texts that are printed lie in memory of their own, each time: those of the program's own words, small numbers and others.
func TestWhatMachinesPrintIsNew(t *testing.T) {
	m := booted(t, `print(nil); print(true); print(false); print(7); print(123); print("text"); print({}); print(print);`, 400)
	one, _ := impl.RunMachine(m, impl.MaxFuel)
	two, _ := impl.RunMachine(m, impl.MaxFuel)
	if len(one.Out) != 8 {
		t.Fatal("out", one.Out)
	}
	checkApart(t, "printed", one, two, m)
	more, _ := impl.FlipNow(one)
	checkApart(t, "handed on", one, two, more)
}

// Each instruction and each library function leaves its argument as it was.
func TestDeedsStay(t *testing.T) {
	for name, d := range asking() {
		s := sceneOf(d.i, strings.ReplaceAll(d.stack, "cut", "ab"))
		for _, s := range []*scene{s, s.flipped()} {
			checkSteps(t, name, s.Machine, 3)
		}
	}
	for lib := 1; lib <= 11; lib++ {
		for _, args := range []string{"", "ab", "table 1", "plain ab", "co ab", "run"} {
			s := sceneOf(ins(impl.OCall, len(strings.Fields(args))), fmt.Sprint("self 1 | 2 0 0 lib:", lib, " ", args))
			for _, s := range []*scene{s, s.flipped()} {
				checkSteps(t, fmt.Sprint("lib ", lib, " of ", args), s.Machine, 3)
			}
		}
	}
}
