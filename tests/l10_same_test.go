package tests

import (
	"fmt"
	"math"
	"math/rand"
	"slices"
	"testing"

	"loop.example/g00101/impl"
)

func cloneModule(m impl.Module) impl.Module {
	out := impl.Module{Texts: slices.Clone(m.Texts), Protos: slices.Clone(m.Protos)}
	for i, p := range out.Protos {
		out.Protos[i].Ups = slices.Clone(p.Ups)
		out.Protos[i].Code = slices.Clone(p.Code)
	}
	return out
}

// broadModule has all that a module may have, more than once.
func broadModule(t *testing.T) impl.Module {
	t.Helper()
	return moduleOf(t, treeOf(t, `local a = "x"; local b = {y = a, 2}; return fn(c, d) { a = b[c]; return fn() { return d .. a; }; };`))
}

func checkModuleSame(t *testing.T, name string, a, b impl.Module, want bool) {
	t.Helper()
	if impl.ModuleSame(a, b) != want || impl.ModuleSame(b, a) != want {
		t.Errorf("%s: the same is %v, want %v", name, !want, want)
	}
}

func TestModulesThatAreTheSame(t *testing.T) {
	checkModuleSame(t, "nothing", impl.Module{}, impl.Module{}, true)
	checkModuleSame(t, "nil and empty", impl.Module{}, impl.Module{Protos: []impl.Proto{}, Texts: []string{}}, true)
	checkModuleSame(t, "a Proto of nothing", impl.Module{Protos: []impl.Proto{{}}}, impl.Module{Protos: []impl.Proto{{Ups: []impl.Up{}, Code: []impl.Ins{}}}}, true)
	wrong := impl.Module{
		Protos: []impl.Proto{{Params: -1, Slots: math.MinInt, Ups: []impl.Up{{Local: true, Index: -7}}, Code: []impl.Ins{{Op: 99, A: math.MaxInt}}}, {}},
		Texts:  []string{"\xff", "", "\xff"},
	}
	checkModuleSame(t, "wrong ones", wrong, cloneModule(wrong), true)
	checkModuleSame(t, "itself", wrong, wrong, true)
	checkModuleSame(t, "made twice", broadModule(t), broadModule(t), true)
	roomy := broadModule(t)
	roomy.Texts = append(roomy.Texts, "z")[:len(roomy.Texts)]
	roomy.Protos = append(roomy.Protos, impl.Proto{Slots: 1})[:len(roomy.Protos)]
	roomy.Protos[0].Code = append(roomy.Protos[0].Code, impl.Ins{Op: 1})[:len(roomy.Protos[0].Code)]
	checkModuleSame(t, "with room behind", broadModule(t), roomy, true)
}

// oneFieldOff are modules that differ from one in one number, flag or text, or in how many there are.
func oneFieldOff(m impl.Module) map[string]impl.Module {
	out := map[string]impl.Module{}
	turn := func(name string, do func(m *impl.Module)) {
		turned := cloneModule(m)
		do(&turned)
		out[name] = turned
	}
	turn("no Protos", func(m *impl.Module) { m.Protos = nil })
	turn("a Proto more", func(m *impl.Module) { m.Protos = append(m.Protos, impl.Proto{}) })
	turn("a Proto less", func(m *impl.Module) { m.Protos = m.Protos[:len(m.Protos)-1] })
	turn("the first Proto is gone", func(m *impl.Module) { m.Protos = m.Protos[1:] })
	turn("two Protos change places", func(m *impl.Module) { m.Protos[0], m.Protos[1] = m.Protos[1], m.Protos[0] })
	turn("no Texts", func(m *impl.Module) { m.Texts = nil })
	turn("a Text more", func(m *impl.Module) { m.Texts = append(m.Texts, "") })
	turn("a Text less", func(m *impl.Module) { m.Texts = m.Texts[:len(m.Texts)-1] })
	turn("two Texts change places", func(m *impl.Module) { m.Texts[0], m.Texts[1] = m.Texts[1], m.Texts[0] })
	for i := range m.Texts {
		turn(fmt.Sprint("Text ", i), func(m *impl.Module) { m.Texts[i] += " " })
		turn(fmt.Sprint("Text empty ", i), func(m *impl.Module) { m.Texts[i] = "" })
	}
	for i, p := range m.Protos {
		turn(fmt.Sprint("Params ", i), func(m *impl.Module) { m.Protos[i].Params++ })
		turn(fmt.Sprint("Slots ", i), func(m *impl.Module) { m.Protos[i].Slots-- })
		turn(fmt.Sprint("an Up more ", i), func(m *impl.Module) { m.Protos[i].Ups = append(m.Protos[i].Ups, impl.Up{}) })
		turn(fmt.Sprint("an instruction more ", i), func(m *impl.Module) { m.Protos[i].Code = append(m.Protos[i].Code, impl.Ins{}) })
		turn(fmt.Sprint("an instruction less ", i), func(m *impl.Module) { m.Protos[i].Code = m.Protos[i].Code[1:] })
		turn(fmt.Sprint("no code ", i), func(m *impl.Module) { m.Protos[i].Code = nil })
		for j := range p.Ups {
			turn(fmt.Sprint("an Up less ", i, " ", j), func(m *impl.Module) { m.Protos[i].Ups = slices.Delete(m.Protos[i].Ups, j, j+1) })
			turn(fmt.Sprint("Local ", i, " ", j), func(m *impl.Module) { m.Protos[i].Ups[j].Local = !m.Protos[i].Ups[j].Local })
			turn(fmt.Sprint("Index ", i, " ", j), func(m *impl.Module) { m.Protos[i].Ups[j].Index++ })
		}
		for j := range p.Code {
			turn(fmt.Sprint("Op ", i, " ", j), func(m *impl.Module) { m.Protos[i].Code[j].Op++ })
			turn(fmt.Sprint("A ", i, " ", j), func(m *impl.Module) { m.Protos[i].Code[j].A-- })
		}
	}
	return out
}

func TestModulesThatDiffer(t *testing.T) {
	m := broadModule(t)
	turned := oneFieldOff(m)
	if len(turned) < 60 {
		t.Error("only", len(turned), "modules")
	}
	for name, other := range turned {
		checkModuleSame(t, name, m, other, false)
		checkModuleSame(t, name, other, cloneModule(other), true)
	}
	checkModuleSame(t, "nothing", m, impl.Module{}, false)
	checkModuleSame(t, "nothing and a Proto", impl.Module{}, impl.Module{Protos: []impl.Proto{{}}}, false)
	checkModuleSame(t, "nothing and a Text", impl.Module{}, impl.Module{Texts: []string{""}}, false)
	// Two programs that tell the same, by other code.
	checkModuleSame(t, "other code", moduleOf(t, treeOf(t, "return 1;")), moduleOf(t, treeOf(t, "return 1; return 1;")), false)
}

// spareModule has room behind each list, with something in it.
func spareModule(m impl.Module) (module impl.Module, all func() string) {
	module = cloneModule(m)
	module.Texts = append(module.Texts, "spare", "room")[:len(m.Texts)]
	module.Protos = append(module.Protos, impl.Proto{Slots: 77}, impl.Proto{Slots: 78})[:len(m.Protos)]
	for i, p := range module.Protos {
		module.Protos[i].Ups = append(p.Ups, impl.Up{Index: 77})[:len(p.Ups)]
		module.Protos[i].Code = append(p.Code, impl.Ins{Op: 77})[:len(p.Code)]
	}
	return module, func() string {
		text := fmt.Sprintf("%q", module.Texts[:len(module.Texts)+2])
		for _, p := range module.Protos[:len(module.Protos)+2] {
			text += fmt.Sprint(p.Params, p.Slots, p.Ups[:cap(p.Ups)], p.Code[:cap(p.Code)])
		}
		return text
	}
}

func TestModulesStay(t *testing.T) {
	list := []impl.Module{{}, broadModule(t)}
	for _, turned := range oneFieldOff(broadModule(t)) {
		list = append(list, turned)
	}
	for _, m := range list {
		one, all := spareModule(m)
		two, allTwo := spareModule(m)
		before, beforeTwo := all(), allTwo()
		impl.ModuleSame(one, two)
		impl.ModuleSame(one, one)
		impl.ModuleSame(one, broadModule(t))
		if all() != before || allTwo() != beforeTwo {
			t.Errorf("written into:\n%s\nwas\n%s", all(), before)
		}
	}
}

// Nothing is written into a tree that is compiled, nor behind it, whether it is right or not.
func TestCompiledTreesStay(t *testing.T) {
	r := rand.New(rand.NewSource(17))
	trees := []impl.Tree{broad().tree(), tBlock().tree(), {}}
	for _, turned := range oneFieldTurned(broad().tree()) {
		trees = append(trees, turned)
	}
	for _, s := range snippets() {
		trees = append(trees, tBlock(s.statement).tree())
	}
	for range 200 {
		trees = append(trees, someProgram(r, 1+r.Intn(60), 1+r.Intn(5)).tree())
	}
	for _, one := range trees {
		tree, all := spareTree(one)
		before := all()
		m, code, node := impl.Compile(tree)
		if all() != before {
			t.Errorf("written into:\n%s\nwas\n%s", all(), before)
		}
		o, codeAgain, nodeAgain := impl.Compile(tree)
		if code != codeAgain || node != nodeAgain || !slices.Equal(toldModule(m), toldModule(o)) {
			t.Errorf("%d at %d, and then %d at %d, or other code", code, node, codeAgain, nodeAgain)
		}
	}
}

// modulePrograms are some with more than one function, Ups and texts.
func modulePrograms() []string {
	return []string{
		`local a = "x"; local b = {y = a, 2}; return fn(c, d) { a = b[c]; return fn() { return d .. a .. "z"; }; };`,
		`print("a long text", {"another one"}); while type(1) == "int" { print(fn() {}); }`,
		"",
		`return {fn(a) { return fn() { return a; }; }, fn(a) { return fn() { return a; }; }};`,
	}
}

// No two lists of an answer share memory, nor those of two answers, nor with the tree.
func TestModulesAreNew(t *testing.T) {
	for _, text := range modulePrograms() {
		tree := treeOf(t, text)
		memories := []memory{memoryOf(tree.Nodes)}
		for _, knot := range tree.Nodes {
			memories = append(memories, memoryOf(knot.Kids))
		}
		var modules []impl.Module
		for range 2 {
			m := moduleOf(t, tree)
			modules = append(modules, m)
			memories = append(memories, memoryOf(m.Protos), memoryOf(m.Texts))
			for _, p := range m.Protos {
				memories = append(memories, memoryOf(p.Ups), memoryOf(p.Code))
			}
		}
		for i, m := range memories {
			for _, o := range memories[:i] {
				if m.meets(o) {
					t.Fatalf("%q: two lists share memory", text)
				}
			}
		}
		checkOwnTexts(t, tree, modules)
	}
}

// checkOwnTexts: the texts lie in no memory of the tree, nor of another module; what is written into one module is in no other.
func checkOwnTexts(t *testing.T, tree impl.Tree, modules []impl.Module) {
	t.Helper()
	for i, text := range modules[0].Texts {
		for _, knot := range tree.Nodes {
			if sharesBytes(text, knot.Text) {
				t.Errorf("%q shares memory with the tree", text)
			}
		}
		if sharesBytes(text, modules[1].Texts[i]) {
			t.Errorf("%q shares memory with another module", text)
		}
	}
	want := toldModule(modules[1])
	for i, p := range modules[0].Protos {
		clear(p.Ups)
		clear(p.Code)
		modules[0].Protos[i] = impl.Proto{}
	}
	clear(modules[0].Texts)
	if !slices.Equal(toldModule(modules[1]), want) || !slices.Equal(toldModule(moduleOf(t, tree)), want) {
		t.Error("what was written into one module is in another one")
	}
}
