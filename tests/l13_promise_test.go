package tests

import (
	"fmt"
	"math/rand"
	"slices"
	"sort"
	"testing"

	"loop.example/g00101/impl"
)

func sameTold(a, b impl.Told) bool {
	return slices.Equal(a.Out, b.Out) && a.State == b.State && a.Error == b.Error
}

// textOfTree is for what a failing test tells.
func textOfTree(tree impl.Tree) string {
	text, _ := impl.Print(tree)
	return fmt.Sprintf("%.3000s", text)
}

// meaning is what a tree means that has a meaning.
func meaning(t *testing.T, tree impl.Tree, fuel int) impl.Told {
	t.Helper()
	told, code := impl.Mean(tree, fuel)
	if code != impl.CodDone {
		t.Fatalf("with %d it answers %d:\n%s", fuel, code, textOfTree(tree))
	}
	return told
}

// ran is what a machine tells that runs the tree; false when a stack was too small, room lacked, or steps.
func ran(t *testing.T, tree impl.Tree, semi int) (impl.Told, bool) {
	t.Helper()
	m := bootOf(t, moduleOf(t, tree), semi)
	for range 8 {
		m, _ = impl.RunMachine(m, impl.MaxFuel)
	}
	return impl.Told{Out: m.Out, State: m.State, Error: m.Error}, m.State != 0 && !m.Deep && !m.Short
}

// checkRan: what ends by its meaning ends so when it is run. It tells whether there was something to hold against each other.
func checkRan(t *testing.T, tree impl.Tree, semi int) bool {
	t.Helper()
	told := meaning(t, tree, impl.MaxFuel)
	if told.State == impl.MachFuel {
		return false
	}
	run, ok := ran(t, tree, semi)
	if ok && !sameTold(run, told) {
		t.Fatalf("means %+v\nruns %+v\n%s", told, run, textOfTree(tree))
	}
	return ok
}

// Promise 13.
func TestWhatIsMeantIsRun(t *testing.T) {
	t.Parallel()
	r := rand.New(rand.NewSource(131))
	states, lacked := map[int]int{}, 0
	for i := range 1800 {
		tree := someMeaningTree(r, 1+r.Intn(8))
		if _, code := impl.Mean(tree, 0); code != impl.CodDone {
			continue
		}
		semi := impl.MaxSemi
		if i%3 == 0 {
			semi = impl.MinSemi + r.Intn(700)
		}
		if checkRan(t, tree, semi) {
			states[meaning(t, tree, impl.MaxFuel).State]++
		} else {
			lacked++
		}
	}
	if states[impl.MachDone] < 500 || states[impl.MachError] < 500 || lacked < 20 {
		t.Error("too few:", states, lacked, "lacked something")
	}
}

// The same of programs that make little sense: of trees by chance whose names all name something.
func TestAnyMeaningIsRun(t *testing.T) {
	t.Parallel()
	r := rand.New(rand.NewSource(132))
	held, refused := 0, 0
	for range 3000 {
		tree := someProgram(r, 1+r.Intn(80), 1+r.Intn(6)).tree()
		_, compiled, _ := impl.Compile(tree)
		_, code := impl.Mean(tree, 0)
		if compiled != impl.CodDone && code != impl.CodBad {
			t.Fatalf("not compiled, and Mean answers %d:\n%s", code, textOfTree(tree))
		}
		if code != impl.CodDone {
			refused++
		} else if checkRan(t, tree, impl.MaxSemi) {
			held++
		}
	}
	if held < 500 || refused < 100 {
		t.Error("too few:", held, "held,", refused, "refused")
	}
}

// Tables with keys of each type that come and go: what they have, and the order in which it comes.
func TestOrdersThatAreMeantAreRun(t *testing.T) {
	t.Parallel()
	r := rand.New(rand.NewSource(133))
	keys := []twig{tTrue(), tFalse(), tName("print"), tName("state"), tName("a"), tName("f"), tName("t"), tText(""), tText("x"), tText("a text of some bytes"), tTurn(impl.TurnNeg, tInt(1)), tInt(999999999999999), tInt(1000003)}
	for range 200 {
		list := []twig{tLocal("a", tTable()), tLocal("f", fnOf("")), tLocal("t", tTable(tItem(tInt(1)), tPair(tText("x"), tInt(2))))}
		for range r.Intn(60) {
			key := tInt(r.Intn(25))
			if r.Intn(3) == 0 {
				key = keys[r.Intn(len(keys))]
			}
			value := tInt(r.Intn(9))
			if r.Intn(4) == 0 {
				value = tNil()
			}
			list = append(list, tPut(tName("t"), key, value))
		}
		k, say := tName("k"), func(v twig) twig { return tDo(tCall(tName("print"), v)) }
		list = append(list, say(tTurn(impl.TurnLen, tName("t"))), tLocal("k", tCall(tName("next"), tName("t"))),
			tWhile(tOp(impl.OpNe, k, tNil()), tBlock(say(k), say(tIndex(tName("t"), k)), tSet("k", tCall(tName("next"), tName("t"), k)))))
		tree := tBlock(list...).tree()
		if !checkRan(t, tree, impl.MaxSemi) {
			t.Fatalf("not run to its end:\n%s", textOfTree(tree))
		}
		checkByThinker(t, tree, impl.MaxFuel)
	}
}

// checkByThinker holds Mean against the model.
func checkByThinker(t *testing.T, tree impl.Tree, fuel int) *thinker {
	t.Helper()
	got, code := impl.Mean(tree, fuel)
	want, answer, k := modelMean(tree, fuel)
	if code != answer || !sameTold(got, want) {
		t.Fatalf("with %d: %d %+v\nwant %d %+v\n%s", fuel, code, got, answer, want, textOfTree(tree))
	}
	return k
}

// Each unit at its place: with less than a program needs, it has printed what stands ahead of the unit that lacks.
func TestMeaningsAgainstTheModel(t *testing.T) {
	t.Parallel()
	r := rand.New(rand.NewSource(134))
	codes, units := map[int]int{}, 0
	for i := range 1200 {
		tree := someMeaningTree(r, 1+r.Intn(6))
		switch i % 8 {
		case 0, 1:
			tree = someProgram(r, 1+r.Intn(60), 1+r.Intn(6)).tree()
		case 2:
			tree = someTree(r, 1+r.Intn(20), 3).tree()
		}
		k := checkByThinker(t, tree, impl.MaxFuel)
		_, code := impl.Mean(tree, impl.MaxFuel)
		codes[code]++
		if k == nil {
			continue
		}
		for fuel, printed := range k.marks {
			if fuel > 30 && r.Intn(30) > 0 {
				continue
			}
			want := impl.Told{Out: k.out[:printed], State: impl.MachFuel}
			if got := meaning(t, tree, fuel); !sameTold(got, want) {
				t.Fatalf("with %d: %+v, want %+v\n%s", fuel, got, want, textOfTree(tree))
			}
			units++
		}
	}
	if codes[impl.CodDone] < 800 || codes[impl.CodBad] < 50 || codes[impl.CodName] < 50 || units < 8000 {
		t.Error("too few:", codes, units, "units")
	}
}

// A program that ended tells the same with more units; with one unit fewer than it needs it is over with MachFuel.
func TestHowManyUnitsAreEnough(t *testing.T) {
	t.Parallel()
	r := rand.New(rand.NewSource(135))
	ended := 0
	for range 600 {
		tree := someMeaningTree(r, 1+r.Intn(7))
		all, code := impl.Mean(tree, impl.MaxFuel)
		if code != impl.CodDone || all.State == impl.MachFuel {
			continue
		}
		least := sort.Search(impl.MaxFuel, func(fuel int) bool { return meaning(t, tree, fuel).State != impl.MachFuel })
		for _, fuel := range []int{least, least + 1, least + 2, least + r.Intn(4001-least), impl.MaxFuel - 1, impl.MaxFuel} {
			if fuel < least || fuel > impl.MaxFuel {
				continue
			}
			if got := meaning(t, tree, fuel); !sameTold(got, all) {
				t.Fatalf("with %d: %+v, want %+v\n%s", fuel, got, all, textOfTree(tree))
			}
		}
		for _, fuel := range []int{least - 1, least - 2, r.Intn(least + 1)} {
			if fuel < 0 || fuel == least {
				continue
			}
			got := meaning(t, tree, fuel)
			if got.State != impl.MachFuel || got.Error != (impl.Val{}) || len(got.Out) > len(all.Out) || !slices.Equal(got.Out, all.Out[:len(got.Out)]) {
				t.Fatalf("with %d of %d: %+v, of %+v\n%s", fuel, least, got, all, textOfTree(tree))
			}
		}
		ended++
	}
	if ended < 400 {
		t.Error("only", ended, "have ended")
	}
}
