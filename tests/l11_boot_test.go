package tests

import (
	"cmp"
	"fmt"
	"math"
	"math/rand"
	"slices"
	"testing"

	"loop.example/g00101/impl"
)

func TestMachineConstants(t *testing.T) {
	if impl.MaxOut != 200 || impl.MachDone != 1 || impl.MachError != 2 || impl.MachFuel != 3 {
		t.Error("constants")
	}
}

// sameRest: all but the arenas of both is the same.
func sameRest(a, b impl.Machine) bool {
	return slices.Equal(toldModule(a.Module), toldModule(b.Module)) && a.Failed == b.Failed && a.Deep == b.Deep && a.Short == b.Short &&
		a.State == b.State && a.Error == b.Error && a.Steps == b.Steps && slices.Equal(a.Out, b.Out)
}

func sameMachine(a, b impl.Machine) bool { return sameRest(a, b) && sameArena(a.Arena, b.Arena) }

// booted is the machine of a text that is not refused.
func booted(t *testing.T, text string, semi int) impl.Machine {
	t.Helper()
	return bootOf(t, moduleOf(t, treeOf(t, text)), semi)
}

func bootOf(t *testing.T, m impl.Module, semi int) impl.Machine {
	t.Helper()
	machine, ok := impl.Boot(m, semi)
	if !ok {
		t.Fatalf("no machine in %d", semi)
	}
	if !impl.MachineOk(machine) || !modelOk(machine.Arena) {
		t.Fatalf("what was booted is not right: %+v", machine)
	}
	return machine
}

// Word by word: the function is asked for first, then the coroutine.
func TestBootByHand(t *testing.T) {
	module := moduleOf(t, treeOf(t, "local a = 1; local b = 2;"))
	m := bootOf(t, module, 256)
	want := []uint64{
		0,                   // the first word is never used
		4 + 16*1 + 1<<20, 0, // a function of Proto 0, born first
		6 + 16*126 + 2<<20, // the coroutine, born next
		2,                  // it runs
		5,                  // the top: two links, the function, two slots
		3, 0,               // the base, and the place
		0, 0, // nobody has resumed it
		2, 0, // the lower link
		2, 0, // the upper link
		5, 1, // the function
	}
	want = append(want, make([]uint64, 2*256-len(want))...)
	if !slices.Equal(m.Words, want) {
		t.Errorf("words %v", m.Words[:130])
	}
	arena := impl.Arena{Words: want, Semi: 256, Top: 130, Serial: 3, Roots: []impl.Val{{Tag: impl.TCo, N: 3}, {}, {}, {}, {}, {}}}
	if !sameMachine(m, impl.Machine{Module: module, Arena: arena}) {
		t.Errorf("the machine %+v", m)
	}
	if list := impl.Objects(m.Arena); !slices.Equal(list, []int{1, 3}) {
		t.Error("objects", list)
	}
	if impl.Reached(m.Arena) != 129 || impl.Free(m.Arena) != 256-130 {
		t.Error("reached", impl.Reached(m.Arena), "free", impl.Free(m.Arena))
	}
}

// topOf is a module whose Proto 0 has so many slots.
func topOf(slots int) impl.Module {
	return impl.Module{Protos: []impl.Proto{{Slots: slots, Code: ended(ins(impl.ONil, 0))}}}
}

// modelBoot lays the function and the coroutine by hand.
func modelBoot(module impl.Module, semi int) impl.Machine {
	a := impl.Arena{Words: make([]uint64, 2*semi), Semi: semi, Serial: 3, Roots: make([]impl.Val, 6)}
	l := &layer{a.Words, 1}
	fun := l.fun(1, 0)
	top := uint64(3 + module.Protos[0].Slots)
	a.Roots[0] = ref(impl.TCo, l.co(2, [4]uint64{2, top, 3, 0}, impl.Val{}, num(0), num(0), ref(impl.TFun, fun)))
	a.Top = l.at
	return impl.Machine{Module: module, Arena: a}
}

// With no slots and with MaxLocals, in the least room and in the most.
func TestBootOfEachSize(t *testing.T) {
	for slots := range 21 {
		for _, semi := range []int{256, 257, 300, 1000, 3999, 4000} {
			m := bootOf(t, topOf(slots), semi)
			if !sameMachine(m, modelBoot(topOf(slots), semi)) {
				t.Errorf("%d slots in %d: %+v", slots, semi, m)
			}
			if m.Words[5] != uint64(3+slots) {
				t.Error("top", m.Words[5])
			}
		}
	}
	if m := bootOf(t, moduleOf(t, tBlock(locals(impl.MaxLocals)...).tree()), impl.MaxSemi); m.Words[5] != 23 {
		t.Error("top", m.Words[5])
	}
	if m := booted(t, "", impl.MinSemi); m.Words[5] != 3 {
		t.Error("top", m.Words[5])
	}
}

// checkNoBoot: no machine, and the zero value beside.
func checkNoBoot(t *testing.T, name string, module impl.Module, semi int) {
	t.Helper()
	m, ok := impl.Boot(module, semi)
	if ok || !sameMachine(m, impl.Machine{}) {
		t.Errorf("%s in %d: %v, %+v", name, semi, ok, m)
	}
}

func TestBootInNoRoom(t *testing.T) {
	for _, semi := range []int{255, 4001, 0, 1, -1, 130, -256, 8000, math.MinInt, math.MaxInt, math.MinInt + 256, 1 << 32} {
		checkNoBoot(t, "the plain one", plainModule(), semi)
		checkNoBoot(t, "nothing", impl.Module{}, semi)
	}
}

// wrongModules has one for each thing that the document names.
func wrongModules() map[string]impl.Module {
	list := map[string]impl.Module{"nothing": {}}
	turn := func(name string, do func(m *impl.Module)) {
		m := plainModule()
		do(&m)
		list[name] = m
	}
	turn("no Protos", func(m *impl.Module) { m.Protos = nil })
	turn("101 Protos", func(m *impl.Module) { m.Protos = append(m.Protos, repeated(98, impl.Proto{Code: ended()})...) })
	turn("256 Texts", func(m *impl.Module) { m.Texts = append(m.Texts, make([]string, 254)...) })
	turn("a long Text", func(m *impl.Module) { m.Texts[1] = string(make([]byte, 161)) })
	turn("Params of the Top", func(m *impl.Module) { m.Protos[0].Params = 1 })
	turn("Ups of the Top", func(m *impl.Module) { m.Protos[0].Ups = make([]impl.Up, 1) })
	turn("Params below 0", func(m *impl.Module) { m.Protos[1].Params = -1 })
	turn("more Params than Slots", func(m *impl.Module) { m.Protos[1].Params = 4 })
	turn("21 Slots", func(m *impl.Module) { m.Protos[0].Slots = 21 })
	turn("21 Slots of another", func(m *impl.Module) { m.Protos[2].Slots = 21 })
	turn("13 Ups", func(m *impl.Module) { m.Protos[2].Ups = append(m.Protos[2].Ups, repeated(11, impl.Up{Local: true})...) })
	turn("no Code", func(m *impl.Module) { m.Protos[2].Code = nil })
	turn("4001 instructions", func(m *impl.Module) { m.Protos[2].Code = ended(repeated(4000, ins(impl.ONil, 0))...) })
	turn("no OReturn", func(m *impl.Module) { m.Protos[0].Code = m.Protos[0].Code[:2] })
	turn("no instruction", func(m *impl.Module) { m.Protos[1].Code[0] = ins(28, 0) })
	turn("no slot", func(m *impl.Module) { m.Protos[1].Code[0] = ins(impl.OBox, 3) })
	turn("no Up", func(m *impl.Module) { m.Protos[2].Code[0] = ins(impl.OUp, 2) })
	turn("no place", func(m *impl.Module) { m.Protos[1].Code[2] = ins(impl.OJump, 4) })
	turn("Ups that nobody has", func(m *impl.Module) { m.Protos[2].Ups[1].Index = 2 })
	return list
}

func TestBootOfWrongModules(t *testing.T) {
	for name, module := range wrongModules() {
		checkModule(t, name, module, false)
		for _, semi := range []int{255, 256, 4000, 4001} {
			checkNoBoot(t, name, module, semi)
		}
	}
	checkModule(t, "the plain one", plainModule(), true)
}

// Programs by chance: all that can be compiled can be booted; each time the same machine comes of it.
func TestBootOfPrograms(t *testing.T) {
	r := rand.New(rand.NewSource(112))
	for range 300 {
		module, code, _ := impl.Compile(someProgram(r, 1+r.Intn(100), 1+r.Intn(6)).tree())
		if code != impl.CodDone {
			continue
		}
		semi := impl.MinSemi + r.Intn(impl.MaxSemi-impl.MinSemi+1)
		m := bootOf(t, module, semi)
		if !sameMachine(m, modelBoot(module, semi)) || !sameMachine(m, bootOf(t, module, semi)) {
			t.Fatalf("in %d: %+v", semi, m)
		}
	}
}

// memoriesOf has the memory of each list of a machine.
func memoriesOf(m impl.Machine) []memory {
	list := []memory{memoryOf(m.Words), memoryOf(m.Roots), memoryOf(m.Out), memoryOf(m.Module.Texts), memoryOf(m.Module.Protos)}
	for _, p := range m.Module.Protos {
		list = append(list, memoryOf(p.Ups), memoryOf(p.Code))
	}
	return list
}

func textsIn(m impl.Machine) []string { return slices.Concat(m.Out, m.Module.Texts) }

// checkApart: no two lists of all these machines share memory, and no text of one lies in one of another.
func checkApart(t *testing.T, name string, machines ...impl.Machine) {
	t.Helper()
	var all []memory
	for _, m := range machines {
		all = append(all, memoriesOf(m)...)
	}
	slices.SortFunc(all, func(a, b memory) int { return cmp.Compare(a.from, b.from) })
	for i := 1; i < len(all); i++ {
		if all[i].meets(all[i-1]) {
			t.Fatalf("%s: two lists share memory", name)
		}
	}
	for i, a := range machines {
		for _, b := range machines[:i] {
			for k, text := range textsIn(a) {
				if k < len(textsIn(b)) && (sharesBytes(text, textsIn(b)[k]) || sharesBytes(textsIn(b)[k], text)) {
					t.Fatalf("%s: the text %q shares memory", name, text)
				}
			}
		}
	}
}

// spareMachine is a machine with room behind each list, with something in it; all tells all of it.
func spareMachine(m impl.Machine) (machine impl.Machine, all func() string) {
	machine = m
	var module func() string
	machine.Module, module = spareModule(m.Module)
	machine.Arena = roomy(m.Arena)
	machine.Out = append(slices.Clone(m.Out), "spare", "room")[:len(m.Out)]
	return machine, func() string {
		return fmt.Sprintf("%+v %q %+v %s", whole(machine.Arena), machine.Out[:cap(machine.Out)], machine, module())
	}
}

// wipe writes over all that a machine has.
func wipe(m impl.Machine) {
	all := whole(m.Arena)
	for i := range all.Words {
		all.Words[i] = 0xBAD
	}
	for i := range all.Roots {
		all.Roots[i] = num(0xBAD)
	}
	clear(m.Out[:cap(m.Out)])
	clear(m.Module.Texts[:cap(m.Module.Texts)])
	for _, p := range m.Module.Protos {
		clear(p.Ups[:cap(p.Ups)])
		clear(p.Code[:cap(p.Code)])
	}
	clear(m.Module.Protos[:cap(m.Module.Protos)])
}

// Nothing is written into a module that is booted, nor behind it; the machine has one of its own.
func TestBootedModulesStay(t *testing.T) {
	modules := wrongModules()
	modules["the plain one"] = plainModule()
	modules["a broad one"] = broadModule(t)
	modules["the least"] = topOf(0)
	for name, one := range modules {
		for _, semi := range []int{255, 256, 4000} {
			module, all := spareModule(one)
			before := all()
			checkModule(t, name, module, modelModuleOk(one))
			m, ok := impl.Boot(module, semi)
			again, _ := impl.Boot(module, semi)
			checkApart(t, name, m, again, impl.Machine{Module: module})
			wipe(m)
			if all() != before {
				t.Errorf("%s: written into:\n%s\nwas\n%s", name, all(), before)
			}
			if ok && !sameMachine(again, modelBoot(one, semi)) {
				t.Errorf("%s: what was written into one machine is in another one", name)
			}
		}
	}
}
