package tests

import (
	"fmt"
	"math"
	"math/rand"
	"slices"
	"testing"

	"loop.example/g00101/impl"
)

// policies are ways to move a machine between two steps.
func policies(r *rand.Rand) map[string]func(m impl.Machine) impl.Machine {
	return map[string]func(m impl.Machine) impl.Machine{
		"flipped whenever it can be": func(m impl.Machine) impl.Machine { m, _ = impl.FlipNow(m); return m },
		"collected each time":        func(m impl.Machine) impl.Machine { m, _ = impl.CollectNow(m); return m },
		"flipped, then one by one": func(m impl.Machine) impl.Machine {
			m, _ = impl.FlipNow(m)
			m, _ = impl.CopyNow(m, 1)
			return m
		},
		"in steps of drawn numbers": func(m impl.Machine) impl.Machine {
			if r.Intn(3) == 0 {
				m, _ = impl.FlipNow(m)
			}
			m, _ = impl.CopyNow(m, r.Intn(9)-2)
			return m
		},
		"by chance": func(m impl.Machine) impl.Machine { return movedBy(r, m) },
	}
}

// tales are what a machine tells ahead of each step, and behind the last one.
func tales(t *testing.T, m impl.Machine, steps int, move func(m impl.Machine) impl.Machine) ([]string, impl.Machine) {
	t.Helper()
	list := []string{told(t, m)}
	for range steps {
		if m.State != 0 {
			break
		}
		m = move(m)
		if !impl.MachineOk(m) {
			t.Fatal("what was moved is not right")
		}
		m, _ = impl.Step(m)
		list = append(list, told(t, m))
	}
	return list, m
}

// Promise 12: whatever is flipped and copied between two steps, a machine tells the same.
func TestMovedMachinesTellTheSame(t *testing.T) {
	t.Parallel()
	r := rand.New(rand.NewSource(123))
	short, over, cycles := 0, 0, 0
	for range 70 {
		module, text := someModule(r, 3+r.Intn(10))
		first := bootOf(t, module, impl.MinSemi+r.Intn(500))
		want, last := tales(t, first, 120, func(m impl.Machine) impl.Machine { return m })
		for name, move := range policies(r) {
			got, m := tales(t, first, 120, move)
			for i, line := range got {
				if i >= len(want) || line != want[i] {
					t.Fatalf("%s, %s: behind %d steps\n%s\nwant\n%s", text, name, i, line, want[min(i, len(want)-1)])
				}
			}
			if len(got) != len(want) {
				t.Fatalf("%s, %s: %d tales, want %d", text, name, len(got), len(want))
			}
			if m.Cycle {
				cycles++
			}
		}
		if last.Short {
			short++
		}
		if last.State != 0 {
			over++
		}
	}
	if short < 2 || over < 20 || cycles < 20 {
		t.Error("too few of some:", short, "short of room,", over, "over,", cycles, "in a cycle")
	}
}

// The same of machines that no program comes to.
func TestLooseMachinesTellTheSame(t *testing.T) {
	t.Parallel()
	r := rand.New(rand.NewSource(124))
	steps := 0
	for range 300 {
		first := looseMachine(r)
		want, _ := tales(t, first, 12, func(m impl.Machine) impl.Machine { return m })
		for name, move := range policies(r) {
			if got, _ := tales(t, first, 12, move); !slices.Equal(got, want) {
				t.Fatalf("%s: %d tales, want %d of\n%s", name, len(got), len(want), toldMachine(first))
			}
		}
		steps += len(want)
	}
	if steps < 800 {
		t.Error("only", steps, "steps")
	}
}

// stepped is a machine behind so many steps, and what RunMachine is to answer beside.
func stepped(m impl.Machine, n int) (impl.Machine, int) {
	for range n {
		m, _ = impl.Step(m)
	}
	if m.State == 0 {
		return m, impl.MachFuel
	}
	return m, m.State
}

func checkRun(t *testing.T, name string, m impl.Machine, fuel int) impl.Machine {
	t.Helper()
	got, code := impl.RunMachine(m, fuel)
	want, answer := stepped(m, fuel)
	if code != answer || !sameMachine(got, want) {
		t.Fatalf("%s: with %d it answers %d, want %d\n%s\nwant\n%s", name, fuel, code, answer, toldMachine(got), toldMachine(want))
	}
	return got
}

// To run is to step, word by word; fuel in two parts is that fuel at once.
func TestToRunIsToStep(t *testing.T) {
	t.Parallel()
	r := rand.New(rand.NewSource(125))
	for i := range 120 {
		m, name := looseMachine(r), "a loose machine"
		if i%2 == 0 {
			module, text := someModule(r, 3+r.Intn(8))
			m, name = bootOf(t, module, impl.MinSemi+r.Intn(500)), text
		}
		m = movedBy(r, m)
		whole := checkRun(t, name, m, 60)
		for range 3 {
			cut := r.Intn(61)
			half := checkRun(t, name, m, cut)
			if rest := checkRun(t, name, half, 60-cut); !sameMachine(rest, whole) {
				t.Fatalf("%s: %d and %d are not 60", name, cut, 60-cut)
			}
		}
		for _, fuel := range []int{0, 1, 2} {
			checkRun(t, name, m, fuel)
		}
	}
}

// endless is a program without an end, three steps a round.
func endless(t *testing.T) impl.Machine { return booted(t, "while true { }", 256) }

func TestFuel(t *testing.T) {
	m := endless(t)
	for _, fuel := range []int{0, 1, 2, 3, 100, 3999, 4000} {
		got, code := impl.RunMachine(m, fuel)
		if code != impl.MachFuel || got.Steps != fuel || got.State != 0 {
			t.Error("fuel", fuel, "answers", code, got.Steps)
		}
	}
	for _, fuel := range []int{-1, 4001, -4000, 8000, math.MinInt, math.MaxInt} {
		got, code := impl.RunMachine(m, fuel)
		if code != 0 || !sameMachine(got, m) {
			t.Error("fuel", fuel, "answers", code, got.Steps)
		}
	}
	if got, code := impl.RunMachine(m, 0); code != impl.MachFuel || !sameMachine(got, m) {
		t.Error("no fuel", code)
	}
	// The last step may end it: with one less it has not ended.
	m = booted(t, "print(1);", 256)
	all, code := impl.RunMachine(m, impl.MaxFuel)
	if code != impl.MachDone || all.Steps != 7 {
		t.Fatal("all", code, all.Steps)
	}
	if got, code := impl.RunMachine(m, 7); code != impl.MachDone || !sameMachine(got, all) {
		t.Error("just enough", code)
	}
	if got, code := impl.RunMachine(m, 6); code != impl.MachFuel || got.State != 0 || got.Steps != 6 {
		t.Error("one less", code)
	}
}

// A machine that is over does no more, with fuel or without.
func TestMachinesThatAreOver(t *testing.T) {
	for _, text := range []string{"print(1);", "error(5);"} {
		over, code := impl.RunMachine(booted(t, text, 256), impl.MaxFuel)
		list := []impl.Machine{over}
		for state := 1; state <= 2; state++ {
			m := booted(t, text, 256)
			m.State = state
			list = append(list, m)
		}
		flipped, _ := impl.FlipNow(over)
		collected, _ := impl.CollectNow(over)
		for i, m := range append(list, flipped, collected) {
			if got, ok := impl.Step(m); ok || !sameMachine(got, m) {
				t.Error(text, i, "a step more", ok)
			}
			for _, fuel := range []int{0, 1, 4000} {
				if got, code := impl.RunMachine(m, fuel); code != m.State || !sameMachine(got, m) {
					t.Error(text, i, "runs on", code)
				}
			}
		}
		if code != over.State || code == 0 {
			t.Error(text, code)
		}
	}
}

// Steps wraps round as any number: a machine is not right then, and goes on no more.
func TestStepsWithoutEnd(t *testing.T) {
	for _, steps := range []int{math.MaxInt - 2, math.MaxInt - 1, math.MaxInt} {
		m := endless(t)
		m.Steps = steps
		for _, fuel := range []int{0, 1, 2, 3, 4, 9} {
			checkRun(t, fmt.Sprint("Steps ", steps), m, fuel)
		}
		got, code := impl.RunMachine(m, 9)
		if code != impl.MachFuel || got.Steps != math.MinInt || impl.MachineOk(got) {
			t.Error(steps, code, got.Steps)
		}
	}
}
