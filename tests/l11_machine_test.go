package tests

import (
	"fmt"
	"math"
	"math/rand"
	"slices"
	"strings"
	"testing"

	"loop.example/g00101/impl"
)

// machineIn is a right machine that has run for a while, in an arena of which one Root alone is kept, the first one.
func machineIn(a impl.Arena, first impl.Val) impl.Machine {
	a.Words = slices.Clone(a.Words)
	a.Roots = []impl.Val{first, {}, {}, {}, {}, {}}
	return impl.Machine{
		Module: plainModule(), Arena: a,
		Failed: true, Short: true, State: impl.MachError, Error: num(-7), Steps: 12, Out: []string{"first", "", "third \xff"},
	}
}

// modelMachineOk goes by the document's words, and by the models of modules and arenas.
func modelMachineOk(m impl.Machine) bool {
	if !modelModuleOk(m.Module) || !modelOk(m.Arena) || len(m.Roots) != 6 {
		return false
	}
	for r := 1; r < 6; r++ {
		if m.Roots[r].Tag != impl.TNil || m.Roots[r].N != 0 {
			return false
		}
	}
	return (m.State == 0 || m.State == 1 || m.State == 2) && m.Steps >= 0 && len(m.Out) <= 200
}

// checkMachine: MachineOk is as wanted; a machine that is not right is handed back by all three calls, in memory of its own.
func checkMachine(t *testing.T, name string, m impl.Machine, want bool) {
	t.Helper()
	if impl.MachineOk(m) != want {
		t.Errorf("%s: MachineOk is %v", name, !want)
	}
	if modelMachineOk(m) != want {
		t.Errorf("%s: the model says %v", name, !want)
	}
	if !want {
		checkHandedBack(t, name, m)
	}
}

// checkHandedBack: none of the three does anything.
func checkHandedBack(t *testing.T, name string, m impl.Machine) {
	t.Helper()
	in, all := spareMachine(m)
	before := all()
	check := func(call string, out impl.Machine, refused bool) {
		t.Helper()
		if !refused || !sameMachine(out, m) {
			t.Errorf("%s: %s does not hand it back", name, call)
		}
		checkApart(t, name+": "+call, out, in)
		wipe(out)
		if all() != before {
			t.Fatalf("%s: %s has written into it", name, call)
		}
	}
	out, ok := impl.FlipNow(in)
	check("FlipNow", out, !ok)
	for _, n := range []int{math.MinInt, -1, 0, 1, 100} {
		out, gone := impl.CopyNow(in, n)
		check(fmt.Sprint("CopyNow ", n), out, gone == 0)
	}
	out, ok = impl.CollectNow(in)
	check("CollectNow", out, !ok)
}

// machineTurn is a change of a machine, by what it is.
type machineTurn struct {
	name string
	do   func(m *impl.Machine)
}

// checkMachineTurns makes each change in machines of its own: one that was booted, and some in arenas with all kinds of objects.
func checkMachineTurns(t *testing.T, right bool, turns ...machineTurn) {
	t.Helper()
	for _, turn := range turns {
		for name, m := range rightMachines(t) {
			turn.do(&m)
			checkMachine(t, turn.name+", "+name, m, right)
		}
	}
}

// rightMachines are new ones each time, with and without a cycle that runs, in either half.
func rightMachines(t *testing.T) map[string]impl.Machine {
	t.Helper()
	list := map[string]impl.Machine{"booted": bootOf(t, broadModule(t), 300)}
	flipped, _ := impl.FlipNow(list["booted"])
	list["flipped"] = flipped
	for to := range 2 {
		still, cycle := stillSample(300, to), cycleSample(300, to)
		list[fmt.Sprint("still in ", to)] = machineIn(still.Arena, ref(impl.TCo, still.at["co"]))
		list[fmt.Sprint("a cycle in ", to)] = machineIn(cycle.Arena, ref(impl.TTab, cycle.at["copy table"]))
	}
	return list
}

func TestRightMachines(t *testing.T) {
	machines := rightMachines(t)
	cycles := 0
	for name, m := range machines {
		checkMachine(t, name, m, true)
		if m.Cycle {
			cycles++
		}
	}
	if len(machines) != 6 || cycles != 3 {
		t.Error("machines", len(machines), cycles)
	}
	checkMachine(t, "nothing", impl.Machine{}, false)
}

func TestStateOfMachines(t *testing.T) {
	state := func(n int) machineTurn {
		return machineTurn{fmt.Sprint("State ", n), func(m *impl.Machine) { m.State = n }}
	}
	checkMachineTurns(t, true, state(0), state(1), state(2))
	checkMachineTurns(t, false, state(-1), state(3), state(4), state(math.MinInt), state(math.MaxInt))
}

func TestStepsOfMachines(t *testing.T) {
	steps := func(n int) machineTurn {
		return machineTurn{fmt.Sprint("Steps ", n), func(m *impl.Machine) { m.Steps = n }}
	}
	checkMachineTurns(t, true, steps(0), steps(1), steps(4000), steps(4001), steps(math.MaxInt))
	checkMachineTurns(t, false, steps(-1), steps(-4000), steps(math.MinInt))
}

func TestOutOfMachines(t *testing.T) {
	out := func(n int, text string) machineTurn {
		return machineTurn{fmt.Sprint(n, " texts in Out"), func(m *impl.Machine) { m.Out = repeated(n, text) }}
	}
	checkMachineTurns(t, true, out(0, ""), out(1, "x"), out(199, ""), out(200, ""), out(200, "\x00 any bytes \xff"), out(1, strings.Repeat("long", 500)))
	checkMachineTurns(t, false, out(201, ""), out(202, "x"), out(1000, ""))
}

// What is not asked for: the flags, the Error, and whether the Error fits the State.
func TestWhatIsNotAskedOfMachines(t *testing.T) {
	for i := range 8 {
		checkMachineTurns(t, true, machineTurn{fmt.Sprint("flags ", i), func(m *impl.Machine) { m.Failed, m.Deep, m.Short = i&1 > 0, i&2 > 0, i&4 > 0 }})
	}
	for _, v := range []impl.Val{{}, num(1), num(math.MinInt), yes(), {Tag: impl.TTab}, {Tag: impl.TBlk, N: 9}, {Tag: -5, N: -5}, {Tag: 99, N: math.MaxInt}, {N: 1}} {
		for state := range 3 {
			checkMachineTurns(t, true, machineTurn{fmt.Sprint("Error ", v, " of State ", state), func(m *impl.Machine) { m.Error, m.State = v, state }})
		}
	}
}

func TestRootsOfMachines(t *testing.T) {
	roots := func(n int) machineTurn {
		return machineTurn{fmt.Sprint(n, " Roots"), func(m *impl.Machine) { m.Roots = append(m.Roots, make([]impl.Val, n)...)[:n] }}
	}
	checkMachineTurns(t, true, roots(6))
	checkMachineTurns(t, false, roots(0), roots(1), roots(5), roots(7), roots(24), roots(25))
	for r := range 6 {
		set := func(v impl.Val) machineTurn {
			return machineTurn{fmt.Sprint("the Root ", r, " is ", v), func(m *impl.Machine) { m.Roots[r] = v }}
		}
		checkMachineTurns(t, true, set(impl.Val{}))
		checkMachineTurns(t, r == 0, set(num(0)), set(num(-1)), set(yes()), set(impl.Val{Tag: impl.TBool}), set(impl.Val{Tag: impl.TLib, N: 1}), set(impl.Val{Tag: impl.TLib, N: 20}))
		checkMachineTurns(t, false, set(impl.Val{N: 1}), set(impl.Val{Tag: impl.TBool, N: 2}), set(impl.Val{Tag: impl.TLib, N: 21}), set(impl.Val{Tag: 10}), set(impl.Val{Tag: -1}), set(ref(impl.TCo, 0)), set(ref(impl.TStr, 2)), set(ref(impl.TCo, -3)), set(ref(impl.TCo, math.MaxInt)))
		checkMachineTurns(t, r == 0, machineTurn{fmt.Sprint("the Root ", r, " is the first one"), func(m *impl.Machine) { m.Roots[r] = m.Roots[0] }})
	}
	// Any object may be the first Root, but a block; none may be another one.
	for to := range 2 {
		s := stillSample(300, to)
		for name, at := range s.at {
			h, _ := impl.ReadHead(s.Words[at])
			tag := map[int]int{impl.KStr: impl.TStr, impl.KTab: impl.TTab, impl.KBlk: impl.TBlk, impl.KFun: impl.TFun, impl.KCell: impl.TCell, impl.KCo: impl.TCo}[h.Kind]
			for r := range 6 {
				m := machineIn(s.Arena, impl.Val{})
				m.Roots[r] = ref(tag, at)
				checkMachine(t, fmt.Sprint("the Root ", r, " is ", name), m, r == 0 && h.Kind != impl.KBlk)
			}
		}
	}
}

// An arena that is not right makes no machine right.
func TestWrongArenasOfMachines(t *testing.T) {
	for to := range 2 {
		for _, turn := range measureTurns() {
			for _, s := range []sample{stillSample(300, to), cycleSample(300, to)} {
				turn.do(&s)
				m := machineIn(s.Arena, impl.Val{})
				if len(s.Roots) > impl.MaxRoots {
					m.Roots = s.Roots
				}
				checkMachine(t, turn.name, m, false)
			}
		}
	}
	wrong := 0
	for _, a := range wrongArenas() {
		m := machineIn(a.Arena, impl.Val{})
		want := modelMachineOk(m) // where a Root was wrong alone it is gone
		checkMachine(t, a.name, m, want)
		if !want {
			wrong++
		}
	}
	if wrong < 25 {
		t.Error("only", wrong, "wrong ones")
	}
}

func TestWrongModulesOfMachines(t *testing.T) {
	for name, module := range wrongModules() {
		checkMachineTurns(t, false, machineTurn{name, func(m *impl.Machine) { m.Module = module }})
	}
	checkMachineTurns(t, true, machineTurn{"another module", func(m *impl.Machine) { m.Module = topOf(20) }})
}

// Whether the stack is as frames must be is not asked.
func TestStacksThatAreNoFrames(t *testing.T) {
	for status := range uint64(6) {
		for _, top := range []uint64{0, 1, 3, 59, 60, 61} {
			for _, base := range []uint64{0, 1, 2, 3, 60, 61} {
				for _, place := range []uint64{0, 1, 4095, 4096, math.MaxUint64} {
					m := bootOf(t, topOf(0), impl.MinSemi)
					copy(m.Words[4:8], []uint64{status, top, base, place})
					clear(m.Words[10:130])
					right := status <= 4 && top <= 60 && base <= top && place <= 4095
					checkMachine(t, fmt.Sprint("status ", status, " top ", top, " base ", base, " place ", place), m, right)
				}
			}
		}
	}
	m := bootOf(t, topOf(0), impl.MinSemi)
	copy(m.Words[10:], pairs(yes(), impl.Val{}, ref(impl.TCo, 3)))
	checkMachine(t, "a coroutine on its own stack, and no links", m, true)
	copy(m.Words[8:], pairs(ref(impl.TCo, 3)))
	checkMachine(t, "a coroutine that has resumed itself", m, true)
	copy(m.Words[8:], pairs(ref(impl.TFun, 1)))
	checkMachine(t, "a coroutine that a function has resumed", m, false)
	m = bootOf(t, topOf(0), impl.MinSemi)
	copy(m.Words[16:], pairs(yes()))
	checkMachine(t, "something above the top", m, false)
}

// The Proto's number of a function in the arena is none of the module's business, as long as it is one of 0 .. 255.
func TestProtosOfFunctionsInMachines(t *testing.T) {
	for _, proto := range []uint64{0, 1, 99, 100, 255, 256} {
		m := bootOf(t, topOf(0), impl.MinSemi)
		m.Words[2] = proto
		checkMachine(t, fmt.Sprint("Proto ", proto), m, proto <= 255)
	}
}

// someMachine is a right one whose arena comes of chance.
func someMachine(r *rand.Rand) impl.Machine {
	a := grown(r)
	first := impl.Val{}
	if len(a.Roots) > 0 {
		first = a.Roots[r.Intn(len(a.Roots))]
	}
	for _, at := range impl.Objects(a) {
		if h, _ := impl.HeadAt(a, at); h.Kind == impl.KCo && r.Intn(3) > 0 {
			first = ref(impl.TCo, at)
		}
	}
	m := machineIn(a, first)
	m.State, m.Steps = r.Intn(3), r.Intn(5000)
	m.Failed, m.Deep, m.Short = r.Intn(2) == 0, r.Intn(2) == 0, r.Intn(2) == 0
	m.Error = impl.Val{Tag: r.Intn(10), N: r.Intn(3)}
	m.Out = nil
	for range r.Intn(5) {
		m.Out = append(m.Out, someText(r))
	}
	if module, code, _ := impl.Compile(someProgram(r, 1+r.Intn(40), 1+r.Intn(4)).tree()); code == impl.CodDone {
		m.Module = module
	}
	return m
}

// turnMachine changes one thing of a machine.
func turnMachine(r *rand.Rand, m *impl.Machine) {
	switch r.Intn(8) {
	case 0:
		m.State += r.Intn(5) - 2
	case 1:
		m.Steps = r.Intn(3) - 1
	case 2:
		m.Out = make([]string, 199+r.Intn(4))
	case 3:
		turnModule(r, &m.Module)
	case 4:
		m.Roots[r.Intn(6)] = impl.Val{Tag: r.Intn(11), N: r.Intn(3)}
	case 5:
		m.Roots = make([]impl.Val, 5+r.Intn(3))
	default:
		m.Words[r.Intn(len(m.Words))] = uint64(r.Intn(9))
	}
}

func TestMachinesByChance(t *testing.T) {
	r := rand.New(rand.NewSource(113))
	right, wrong := 0, 0
	for range 1500 {
		m := someMachine(r)
		checkMachine(t, "by chance", m, true)
		turnMachine(r, &m)
		want := modelMachineOk(m)
		checkMachine(t, "turned by chance", m, want)
		if want {
			right++
		} else {
			wrong++
		}
	}
	if right < 200 || wrong < 200 {
		t.Error("too few of either kind:", right, "right", wrong, "wrong")
	}
}

// Nothing is written into a machine that is looked at.
func TestMachinesThatAreLookedAtStay(t *testing.T) {
	for name, m := range rightMachines(t) {
		in, all := spareMachine(m)
		before := all()
		if !impl.MachineOk(in) || !impl.ModuleOk(in.Module) || all() != before {
			t.Errorf("%s: written into:\n%s\nwas\n%s", name, all(), before)
		}
		in.Steps = -1
		before = all()
		if impl.MachineOk(in) || all() != before {
			t.Errorf("%s: written into:\n%s\nwas\n%s", name, all(), before)
		}
	}
}
