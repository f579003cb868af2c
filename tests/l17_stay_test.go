package tests

import (
	"fmt"
	"math"
	"math/rand"
	"slices"
	"strings"
	"sync"
	"testing"

	"loop.example/g00101/impl"
)

// checkNothingSeen: of a machine that is not right nothing is told, and RunTo hands it back, in memory of its own. Chapter 12's tests of wrong machines call it, too.
func checkNothingSeen(t *testing.T, name string, m impl.Machine) {
	t.Helper()
	in, all := spareMachine(m)
	before := all()
	if list := impl.Backtrace(in); len(list) != 0 {
		t.Errorf("%s: it has the frames %s", name, toldFrames(list))
	}
	if list := impl.StackTexts(in); len(list) != 0 {
		t.Errorf("%s: on its stack there is %q", name, list)
	}
	for _, k := range []int{math.MinInt, -1, 0, 1, math.MaxInt} {
		if list := impl.Locals(in, k); len(list) != 0 {
			t.Errorf("%s: it has the locals %q", name, list)
		}
	}
	for _, fuel := range []int{math.MinInt, -1, 0, 1, 4000, 4001} {
		if list := impl.Profile(in, fuel); len(list) != 0 {
			t.Errorf("%s: it has the profile %v", name, list)
		}
		for _, to := range [][2]int{{0, 0}, {-1, 0}, {1, 3}} {
			out, code := impl.RunTo(in, to[0], to[1], fuel)
			if code != 0 || !sameMachine(out, m) {
				t.Errorf("%s: RunTo with %d answers %d and does not hand it back", name, fuel, code)
			}
			checkApart(t, name+": RunTo", out, in)
			wipe(out)
		}
	}
	if all() != before {
		t.Fatalf("%s: it was written into", name)
	}
}

func TestNothingIsSeenOfWrongMachines(t *testing.T) {
	checkNothingSeen(t, "nothing", impl.Machine{})
	turns := []machineTurn{
		{"Steps below 0", func(m *impl.Machine) { m.Steps = -1 }},
		{"State 3", func(m *impl.Machine) { m.State = 3 }},
		{"State 4", func(m *impl.Machine) { m.State = impl.MachThere }},
		{"State -1", func(m *impl.Machine) { m.State = -1 }},
		{"201 texts", func(m *impl.Machine) { m.Out = repeated(201, "x") }},
		{"5 Roots", func(m *impl.Machine) { m.Roots = m.Roots[:5] }},
		{"something in a register", func(m *impl.Machine) { m.Roots[5] = num(1) }},
		{"a place too far", func(m *impl.Machine) { m.Roots[0].N = len(m.Words) }},
		{"a place below 0", func(m *impl.Machine) { m.Roots[0] = ref(impl.TCo, -1) }},
		{"a word less", func(m *impl.Machine) { m.Words = m.Words[1:] }},
		{"no module", func(m *impl.Machine) { m.Module = impl.Module{} }},
	}
	for _, turn := range turns {
		for name, m := range rightMachines(t) {
			for state := range 2 {
				m := m
				m.Roots, m.State = slices.Clone(m.Roots), state
				turn.do(&m)
				checkNothingSeen(t, turn.name+", "+name, m)
			}
		}
	}
	// One word of the stack is no value.
	m := booted(t, "local a = 1;", 300)
	m.Words[len(m.Words)/2-1] = 0
	m.Words[m.Roots[0].N+7] = 99
	checkNothingSeen(t, "no value", m)
}

// apartTexts: no two of these lists share memory, and no text of one lies in one of another, nor in one of the machine.
func apartTexts(t *testing.T, name string, m impl.Machine, lists ...[]string) {
	t.Helper()
	var ahead []string
	for i, list := range lists {
		for _, other := range lists[:i] {
			if memoryOf(list).meets(memoryOf(other)) {
				t.Fatalf("%s: two lists share memory", name)
			}
		}
		for _, text := range list {
			for _, other := range append(ahead, textsIn(m)...) {
				if sharesBytes(text, other) || sharesBytes(other, text) {
					t.Fatalf("%s: the text %q shares memory", name, text)
				}
			}
		}
		for _, known := range memoriesOf(m) {
			if memoryOf(list).meets(known) {
				t.Fatalf("%s: a list lies in the machine", name)
			}
		}
		ahead = append(ahead, list...)
	}
}

// checkLooks: nothing is written into a machine that is looked at or run to a place, and no two answers share memory.
func checkLooks(t *testing.T, name string, m impl.Machine, proto int, place int, fuel int) {
	t.Helper()
	in, all := spareMachine(m)
	before, want := all(), seen(m)
	frames, again := impl.Backtrace(in), impl.Backtrace(in)
	counts, twin := impl.Profile(in, fuel), impl.Profile(in, fuel)
	texts := [][]string{impl.StackTexts(in), impl.StackTexts(in)}
	for k := range frames {
		texts = append(texts, impl.Locals(in, k), impl.Locals(in, k))
	}
	one, code := impl.RunTo(in, proto, place, fuel)
	two, answer := impl.RunTo(in, proto, place, fuel)
	if all() != before {
		t.Fatalf("%s: written into:\n%s\nwas\n%s", name, all(), before)
	}
	if code != answer || !sameMachine(one, two) || !slices.Equal(counts, twin) || !slices.Equal(frames, again) {
		t.Fatalf("%s: it hangs on something else", name)
	}
	checkApart(t, name, in, one, two)
	apartTexts(t, name, in, texts...)
	if memoryOf(frames).meets(memoryOf(again)) || memoryOf(counts).meets(memoryOf(twin)) {
		t.Fatalf("%s: two answers share memory", name)
	}
	wipe(one)
	clear(frames[:cap(frames)])
	clear(counts[:cap(counts)])
	for _, list := range texts {
		clear(list[:cap(list)])
	}
	end, _ := impl.RunTo(m, proto, place, fuel)
	if all() != before || seen(in) != want || !sameMachine(end, two) || !slices.Equal(impl.Profile(in, fuel), twin) {
		t.Fatalf("%s: an answer shares memory", name)
	}
}

func TestMachinesThatAreLookedIntoStay(t *testing.T) {
	t.Parallel()
	r := rand.New(rand.NewSource(177))
	for range 40 {
		module, text := someModule(r, 3+r.Intn(8))
		m := bootOf(t, module, impl.MinSemi+r.Intn(400))
		for range 8 {
			m, _ = impl.RunMachine(m, r.Intn(20))
			m = movedBy(r, m)
			proto := r.Intn(len(module.Protos))
			checkLooks(t, text, m, proto, r.Intn(len(module.Protos[proto].Code)), r.Intn(40))
		}
	}
	for range 120 {
		checkLooks(t, "a loose machine", movedBy(r, looseMachine(r)), r.Intn(5)-1, r.Intn(8), r.Intn(12))
	}
	for name, m := range rightMachines(t) {
		m.State = 0
		checkLooks(t, name, m, 0, 2, 9)
		checkLooks(t, name, m, 0, 2, -1)
	}
}

// Of each value the text is one of its own, also where it is a word of the program, or a short one.
func TestSeenTextsAreNew(t *testing.T) {
	stack := "self " + strings.Join(someOfEach(), " ")
	for _, v := range []string{"nil", "yes", "no", "0", "1", "ab", "lib:1", "box", "bin"} {
		for _, s := range []*scene{sceneOf(ins(impl.ONil, 0), "self "+v+" "+v+" | "+v), sceneOf(ins(impl.ONil, 0), stack+" |")} {
			apartTexts(t, v, s.Machine, impl.StackTexts(s.Machine), impl.StackTexts(s.Machine), impl.Locals(s.Machine, 0), impl.Locals(s.Machine, 0))
		}
	}
}

// Many who look into one machine and run it at once are told the same.
func TestManyLookAtOnce(t *testing.T) {
	m := there(t, booted(t, "local n = 5; local f = fn(a) { local b = a * 2; return b + n; }; print(pcall(f, 4));", 600), 1, 4)
	m, _ = impl.FlipNow(m)
	want := seen(m)
	end, _ := impl.RunTo(m, 0, 0, 100)
	var all sync.WaitGroup
	for range 16 {
		all.Go(func() {
			for range 30 {
				got, code := impl.RunTo(m, 0, 0, 100)
				if seen(m) != want || code != impl.MachDone || !sameMachine(got, end) || fmt.Sprint(impl.Profile(m, 100)) != "[4 4]" {
					t.Error("told another one")
				}
			}
		})
	}
	all.Wait()
}
