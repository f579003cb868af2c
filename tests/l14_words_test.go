package tests

import (
	"fmt"
	"math/rand"
	"slices"
	"testing"

	"loop.example/g00101/impl"
)

func checkWordsOf(t *testing.T, name string, m impl.Machine, inUse int, reached int) {
	t.Helper()
	in, all := spareMachine(m)
	before := all()
	a, b := impl.Words(in)
	if a != inUse || b != reached {
		t.Errorf("%s: %d %d, want %d %d", name, a, b, inUse, reached)
	}
	if all() != before {
		t.Fatalf("%s: written into", name)
	}
}

// Two words of the function and 127 of the coroutine, at first.
func TestWordsByHand(t *testing.T) {
	for _, semi := range []int{256, 300, 4000} {
		text := `local t = {}; t = {}; local s = "more than 8 bytes"; s = nil;`
		m := hosted(t, text, semi)
		checkWordsOf(t, "booted", m, 129, 129)
		checkWordsOf(t, "flipped", hosted(t, text, semi, flips()), 127, 129)
		checkWordsOf(t, "flipped, one copied", hosted(t, text, semi, flips(), copies(1)), 129, 129)
		checkWordsOf(t, "flipped, all copied", hosted(t, text, semi, flips(), copies(2)), 129, 129)
		checkWordsOf(t, "collected", hosted(t, text, semi, collects()), 129, 129)
		// A table has four words with its head; the text has five.
		checkWordsOf(t, "a table", hosted(t, text, semi, runs(1)), 133, 133)
		checkWordsOf(t, "a table and a local", hosted(t, text, semi, runs(2)), 133, 133)
		checkWordsOf(t, "two tables", hosted(t, text, semi, runs(3)), 137, 137)
		checkWordsOf(t, "one of them is gone", hosted(t, text, semi, runs(4)), 137, 133)
		checkWordsOf(t, "a text", hosted(t, text, semi, runs(6)), 142, 138)
		checkWordsOf(t, "it is gone", hosted(t, text, semi, runs(8)), 142, 133)
		checkWordsOf(t, "collected", hosted(t, text, semi, runs(8), collects()), 133, 133)
		// Flipped: the coroutine, then its function, then the table.
		checkWordsOf(t, "flipped", hosted(t, text, semi, runs(8), flips()), 127, 133)
		checkWordsOf(t, "flipped, one copied", hosted(t, text, semi, runs(8), flips(), copies(1)), 133, 133)
		checkWordsOf(t, "flipped, all copied", hosted(t, text, semi, runs(8), flips(), copies(3)), 133, 133)
		// What is over has an empty stack.
		checkWordsOf(t, "over", hosted(t, text, semi, runs(10)), 142, 127)
		checkWordsOf(t, "over, and flipped", hosted(t, text, semi, runs(10), flips()), 127, 127)
		checkWordsOf(t, "over, and collected", hosted(t, text, semi, runs(10), collects()), 127, 127)
	}
}

// While a cycle runs what is made is in use at once, and each time that something is asked for two objects are gone over.
func TestWordsWhileACycleRuns(t *testing.T) {
	text := `local t = {}; t = {}; t = {}; t = {}; t = {};`
	m := hosted(t, text, 300, runs(2), flips())
	checkWordsOf(t, "flipped", m, 127, 133)
	m = hosted(t, text, 300, runs(2), flips(), runs(1))
	checkWordsOf(t, "one is made", m, 133+4, 137)
	if !m.Cycle {
		t.Error("no cycle runs")
	}
	m = hosted(t, text, 300, runs(2), flips(), runs(2))
	checkWordsOf(t, "the one ahead is gone, though it was copied", m, 133+4, 133)
	m = hosted(t, text, 300, runs(2), flips(), runs(6))
	checkWordsOf(t, "three are made", m, 133+12, 133)
	if m.Cycle {
		t.Error("a cycle runs still")
	}
	checkWordsOf(t, "and collected", hosted(t, text, 300, runs(2), flips(), runs(6), collects()), 133, 133)
}

// Behind a collection both numbers are alike, whatever the program is and wherever it stands.
func TestWordsByChance(t *testing.T) {
	t.Parallel()
	r := rand.New(rand.NewSource(144))
	more, less := 0, 0
	for range 400 {
		text := someProgramText(r)
		semi := impl.MinSemi + r.Intn(800)
		list := someActs(r, r.Intn(40))
		m := hosted(t, text, semi, list...)
		inUse, reached := m.Top-m.To*semi-1, taleOf(m.Arena).words
		checkWordsOf(t, text, m, inUse, reached)
		if inUse > reached {
			more++
		}
		if inUse < reached {
			less++
		}
		checkWordsOf(t, text, hosted(t, text, semi, append(slices.Clone(list), collects())...), reached, reached)
		other := someMachine(r)
		checkWordsOf(t, "a machine by chance", other, other.Top-other.To*other.Semi-1, taleOf(other.Arena).words)
	}
	if more < 30 || less < 15 {
		t.Error("too few:", more, "with garbage,", less, "that are not all copied")
	}
}

// Of a machine that is not right nothing is told.
func TestWordsOfWrongMachines(t *testing.T) {
	checkWordsOf(t, "nothing", impl.Machine{}, 0, 0)
	turns := []machineTurn{
		{"Steps below 0", func(m *impl.Machine) { m.Steps = -1 }},
		{"State 3", func(m *impl.Machine) { m.State = 3 }},
		{"State -1", func(m *impl.Machine) { m.State = -1 }},
		{"201 texts", func(m *impl.Machine) { m.Out = repeated(201, "x") }},
		{"no Roots", func(m *impl.Machine) { m.Roots = nil }},
		{"5 Roots", func(m *impl.Machine) { m.Roots = m.Roots[:5] }},
		{"7 Roots", func(m *impl.Machine) { m.Roots = append(slices.Clone(m.Roots), impl.Val{}) }},
		{"something in a register", func(m *impl.Machine) { m.Roots[1] = num(1) }},
		{"a place too far", func(m *impl.Machine) { m.Roots[0].N = len(m.Words) }},
		{"a word less", func(m *impl.Machine) { m.Words = m.Words[1:] }},
		{"another Top", func(m *impl.Machine) { m.Top++ }},
		{"a half that is none", func(m *impl.Machine) { m.To = 2 }},
		{"no module", func(m *impl.Machine) { m.Module = impl.Module{} }},
	}
	for name, module := range wrongModules() {
		turns = append(turns, machineTurn{name, func(m *impl.Machine) { m.Module = module }})
	}
	for _, turn := range turns {
		for name, m := range rightMachines(t) {
			turn.do(&m)
			checkWordsOf(t, fmt.Sprint(turn.name, ", ", name), m, 0, 0)
		}
	}
	for _, a := range wrongArenas() {
		if m := machineIn(a.Arena, impl.Val{}); !impl.MachineOk(m) {
			checkWordsOf(t, a.name, m, 0, 0)
		}
	}
	for name, m := range rightMachines(t) {
		if a, b := impl.Words(m); a != m.Top-m.To*m.Semi-1 || b != impl.Reached(m.Arena) || b == 0 {
			t.Error(name, a, b)
		}
	}
}

// Nothing is written into the acts of a script, and no two answers share memory; neither of those that are refused.
func TestScriptsStay(t *testing.T) {
	t.Parallel()
	r := rand.New(rand.NewSource(145))
	for range 120 {
		checkScriptsStay(t, someProgramText(r), impl.MinSemi+r.Intn(400), someActs(r, r.Intn(61)))
	}
	for _, s := range scriptTexts() {
		checkScriptsStay(t, s.text, 300, acts(runs(9), flips(), copies(1)))
		checkScriptsStay(t, s.text, 255, nil)
	}
	for _, wrong := range wrongActs() {
		checkScriptsStay(t, "print(1);", 300, wrong)
	}
	// Texts of the program's own words, of its text, small numbers, and what is printed twice.
	text := `local s = "text"; print(nil); print(true); print(7); print(123); print("text"); print(s); print(s); print({}); print(print); print(type(1)); print(tostr(s)); print(s .. "");`
	for n := range 60 {
		checkScriptsStay(t, text, 400, acts(runs(2*n), flips(), runs(n)))
	}
}
