package tests

import (
	"fmt"
	"math/rand"
	"testing"

	"loop.example/g00101/impl"
)

func runs(n int) impl.Act   { return impl.Act{Kind: impl.ActRun, N: n} }
func copies(n int) impl.Act { return impl.Act{Kind: impl.ActCopy, N: n} }
func flips() impl.Act       { return impl.Act{Kind: impl.ActFlip} }
func collects() impl.Act    { return impl.Act{Kind: impl.ActCollect} }

func acts(list ...impl.Act) []impl.Act { return list }

// modelHost goes by the document's words, step by step and by functions of the chapters ahead.
func modelHost(text string, semi int, list []impl.Act) (impl.Machine, int, int) {
	tree, code, place := impl.Parse(text)
	if code != impl.ParDone {
		return impl.Machine{}, 1, place
	}
	module, code, node := impl.Compile(tree)
	switch code {
	case impl.CodName:
		return impl.Machine{}, 2, node
	case impl.CodMany:
		return impl.Machine{}, 3, node
	}
	m, ok := impl.Boot(module, semi)
	if !ok || len(list) > 60 {
		return impl.Machine{}, 4, 0
	}
	for _, a := range list {
		if a.Kind < 1 || a.Kind > 4 || a.N < 0 || a.N > 4000 {
			return impl.Machine{}, 4, 0
		}
	}
	for _, a := range list {
		m = modelAct(m, a)
	}
	return m, 0, 0
}

func modelAct(m impl.Machine, a impl.Act) impl.Machine {
	switch a.Kind {
	case 1:
		for done := 0; done < a.N && m.State == 0; done++ {
			m, _ = impl.Step(m)
		}
	case 2:
		m, _ = impl.FlipNow(m)
	case 3:
		m, _ = impl.CopyNow(m, a.N)
	case 4:
		m, _ = impl.CollectNow(m)
	}
	return m
}

// checkHost holds Host against the model, word by word.
func checkHost(t *testing.T, text string, semi int, list []impl.Act) impl.Machine {
	t.Helper()
	got, code, at := impl.Host(text, semi, list)
	want, answer, place := modelHost(text, semi, list)
	if code != answer || at != place || !sameMachine(got, want) {
		t.Fatalf("%s\nin %d with %v: %d %d, want %d %d\n%s\nwant\n%s", text, semi, list, code, at, answer, place, toldMachine(got), toldMachine(want))
	}
	return got
}

// hosted is the machine behind acts that are not refused.
func hosted(t *testing.T, text string, semi int, list ...impl.Act) impl.Machine {
	t.Helper()
	m, code, at := impl.Host(text, semi, list)
	if code != 0 || at != 0 {
		t.Fatalf("%s\nin %d with %v: %d %d", text, semi, list, code, at)
	}
	if !impl.MachineOk(m) {
		t.Fatalf("%s\nin %d with %v: the machine is not right", text, semi, list)
	}
	return m
}

// someActs are right ones of a few steps each.
func someActs(r *rand.Rand, count int) []impl.Act {
	var list []impl.Act
	for range count {
		switch r.Intn(9) {
		case 0, 1:
			list = append(list, impl.Act{Kind: impl.ActFlip, N: r.Intn(4001)})
		case 2, 3:
			list = append(list, copies(r.Intn(6)))
		case 4:
			list = append(list, impl.Act{Kind: []int{impl.ActCollect, impl.ActCopy}[r.Intn(2)], N: r.Intn(4001)})
		case 5:
			list = append(list, runs(r.Intn(200)))
		default:
			list = append(list, runs(r.Intn(12)))
		}
	}
	return list
}

// someProgramText is a program that can be compiled, with coroutines or with more of all else.
func someProgramText(r *rand.Rand) string {
	for {
		if r.Intn(3) > 0 {
			_, text := someModule(r, 3+r.Intn(12))
			return text
		}
		// What is printed may be too long, or too deep, to be read.
		text, _ := impl.Print(someMeaningTree(r, 1+r.Intn(6)))
		if _, code, _ := impl.Parse(text); code == impl.ParDone {
			return text
		}
	}
}

// Each act in turn, word by word as the model has it.
func TestScriptsAgainstTheModel(t *testing.T) {
	t.Parallel()
	r := rand.New(rand.NewSource(141))
	cycles, over, steps := 0, 0, 0
	for range 250 {
		text := someProgramText(r)
		semi := impl.MinSemi + r.Intn(500)
		m := checkHost(t, text, semi, someActs(r, r.Intn(30)))
		steps += m.Steps
		if m.Cycle {
			cycles++
		}
		if m.State != 0 {
			over++
		}
	}
	if cycles < 20 || over < 50 || steps < 5000 {
		t.Error("too little:", cycles, "in a cycle,", over, "over,", steps, "steps")
	}
}

// wrongActs are lists that are refused, by what is wrong with them.
func wrongActs() map[string][]impl.Act {
	list := map[string][]impl.Act{}
	for _, kind := range []int{0, 5, -1, 6, 100, 1 << 40, -1 << 63, 1<<63 - 1} {
		list[fmt.Sprint("kind ", kind)] = acts(impl.Act{Kind: kind, N: 1})
	}
	for kind := 1; kind <= 4; kind++ {
		for _, n := range []int{-1, 4001, -4000, 1 << 40, -1 << 63, 1<<63 - 1} {
			list[fmt.Sprint("kind ", kind, " with ", n)] = acts(impl.Act{Kind: kind, N: n})
		}
		many := make([]impl.Act, 61)
		for i := range many {
			many[i] = impl.Act{Kind: kind}
		}
		list[fmt.Sprint("61 of kind ", kind)] = many
	}
	list["61 acts that are none"] = make([]impl.Act, 61)
	return list
}

// Wherever the wrong one stands, and whatever stands beside it.
func TestScriptsWithWrongActs(t *testing.T) {
	t.Parallel()
	right := acts(runs(3), flips(), copies(1), runs(100), collects())
	for name, wrong := range wrongActs() {
		for at := range len(right) + 1 {
			list := append(append(append([]impl.Act{}, right[:at]...), wrong...), right[at:]...)
			m, code, place := impl.Host("print(1);", 300, list)
			if code != 4 || place != 0 || !sameMachine(m, impl.Machine{}) {
				t.Errorf("%s at %d: %d %d\n%s", name, at, code, place, toldMachine(m))
			}
		}
	}
}
