package tests

import (
	"maps"
	"slices"
	"strconv"
	"strings"
	"testing"

	"loop.example/g00101/impl"
)

// scene is a machine with some objects that go by names. Its coroutine "run" does one instruction of Proto 1, whose function is "self".
type scene struct {
	impl.Machine
	names   map[string]impl.Val
	copied  map[string]impl.Val // those that a step is to copy, and where
	scanned bool                // the collector has gone over "run": all that its stack has was copied
}

// sceneSemi has room for all, and for what is made, less than half of it in use: nothing is flipped by an asking.
const sceneSemi = 1200

// sceneOf has a stack: the function, its slots, then | and what stands above.
func sceneOf(i impl.Ins, stack string) *scene {
	a := newArena(sceneSemi, 0)
	a.Roots = make([]impl.Val, 6)
	s := &scene{names: map[string]impl.Val{}, copied: map[string]impl.Val{}}
	l := &layer{a.Words, 1}
	put := func(name string, tag int, at int) impl.Val {
		s.names[name] = ref(tag, at)
		return s.names[name]
	}
	ab := put("ab", impl.TStr, l.text("ab"))
	cd := put("cd", impl.TStr, l.text("cd"))
	put("long", impl.TStr, l.text(strings.Repeat("x", 159)))
	box := put("box", impl.TCell, l.cell(num(7)))
	bin := put("bin", impl.TCell, l.cell(ab))
	put("self", impl.TFun, l.fun(1, 1, box, bin))
	put("bare", impl.TFun, l.fun(2, 1))
	plain := put("plain", impl.TFun, l.fun(3, 3))
	put("odd", impl.TFun, l.fun(4, 200))
	// The hash of "cd" is 863261: the entry 1 is taken. The last one is dead.
	block := put("block", impl.TBlk, l.block(4, entry{1, num(1), ab}, entry{2, cd, plain}, entry{3, num(3), impl.Val{}}))
	put("table", impl.TTab, l.table(5, 3, block))
	put("empty", impl.TTab, l.table(6, 0, impl.Val{}))
	put("co", impl.TCo, l.co(7, [4]uint64{0, 3, 3, 0}, impl.Val{}, num(0), num(0), plain))
	a.Roots[0] = put("run", impl.TCo, l.co(8, [4]uint64{2, 0, 3, 0}, impl.Val{}))
	a.Top, a.Serial = l.at, 9
	s.Arena = a
	slots := len(strings.Fields(strings.Split(stack, "|")[0])) - 1
	s.Module = sceneModule(i, slots)
	s.setStack("0 0 " + stack)
	if !impl.MachineOk(s.Machine) {
		panic("the scene is not right: " + toldIns(i) + " of " + stack)
	}
	return s
}

// framedScene may have more frames, parted by /; all but the lowest begin with their links. The last one runs.
func framedScene(i impl.Ins, frames string) *scene {
	words := func(text string) []string { return strings.Fields(strings.ReplaceAll(text, "|", "")) }
	cut := strings.LastIndex(frames, "/") + 1
	last, base := frames[cut:], 3
	if cut > 0 {
		links := words(last)[:2]
		last = strings.TrimPrefix(strings.TrimSpace(last), links[0]+" "+links[1]+" ")
		base += len(words(strings.ReplaceAll(frames[:cut], "/", ""))) + 2
	}
	s := sceneOf(i, last)
	s.setStack("0 0 " + frames)
	s.Words[s.place("run")+3] = uint64(base)
	return s
}

// sceneModule: Proto 1 has the instruction at its beginning.
func sceneModule(i impl.Ins, slots int) impl.Module {
	return impl.Module{
		Protos: []impl.Proto{
			{Slots: 2, Code: ended()},
			{Slots: slots, Ups: make([]impl.Up, 2), Code: ended(i, ins(impl.ONil, 0), ins(impl.ONil, 0))},
			{Params: 1, Slots: 2, Ups: []impl.Up{{Local: true, Index: 0}, {Index: 1}}, Code: ended()},
			{Params: 1, Slots: 3, Code: ended(ins(impl.OLocal, 0))},
			{Slots: 20, Code: ended()},
		},
		Texts: []string{"", "eight by", "nine byte"},
	}
}

// val is a value by its word; a * ahead of a name: where it was copied to, if it was.
func (s *scene) val(word string) impl.Val {
	name, loaded := strings.CutPrefix(word, "*")
	if n, err := strconv.Atoi(name); err == nil {
		return num(n)
	}
	if lib, is := strings.CutPrefix(name, "lib:"); is {
		n, _ := strconv.Atoi(lib)
		return impl.Val{Tag: impl.TLib, N: n}
	}
	switch name {
	case "nil":
		return impl.Val{}
	case "yes", "no":
		return yesIf(name == "yes")
	}
	v, known := s.names[name]
	if !known {
		panic("the scene has no " + word)
	}
	if to, is := s.copied[name]; is && (loaded || s.scanned) {
		return to
	}
	return v
}

// place is where an object lies that was copied, or was not.
func (s *scene) place(name string) int { return s.val("*" + name).N }

// setStack lays all values of the stack of the coroutine that runs; a | or a / between them says nothing.
func (s *scene) setStack(words string) { s.setStackOf("run", words) }

func (s *scene) setStackOf(co string, words string) {
	at := s.place(co)
	list := strings.Fields(strings.NewReplacer("|", "", "/", "").Replace(words))
	var vals []impl.Val
	for _, word := range list {
		vals = append(vals, s.val(word))
	}
	s.Words[at+2] = uint64(len(list))
	clear(s.Words[at+7 : at+127])
	copy(s.Words[at+7:], pairs(vals...))
}

// twin is the same scene in memory of its own.
func (s *scene) twin() *scene {
	out := &scene{s.Machine, maps.Clone(s.names), maps.Clone(s.copied), s.scanned}
	out.Arena = moverOf(s.Arena).Arena
	out.Out = slices.Clone(s.Out)
	return out
}

// flipped is the scene with a cycle that runs, in which "run" alone was copied.
func (s *scene) flipped() *scene {
	out := s.twin()
	out.Machine, _ = impl.FlipNow(out.Machine)
	out.copied["run"] = out.Roots[0]
	return out
}

// find: whatever was copied goes by where it was copied to.
func (s *scene) find() {
	for name, v := range s.names {
		if to, moved := impl.Forwarded(s.Words[v.N]); moved {
			s.copied[name] = ref(v.Tag, to)
		}
	}
}

// stages are the scene without a cycle, with one that has just begun, and, where all that counts stands on one stack, with others that have come further, the last one to its end.
func (s *scene) stages(all bool) []*scene {
	list := []*scene{s, s.flipped()}
	if !all {
		return list
	}
	for _, n := range []int{1, 2, 3, 4, 6, 99} {
		next := s.flipped()
		next.Machine, _ = impl.CopyNow(next.Machine, n)
		next.scanned = true
		next.find()
		list = append(list, next)
	}
	return list
}

// copies: these go over, one behind the other.
func (s *scene) copies(names string) {
	if !s.Cycle {
		return
	}
	m := &mover{s.Arena}
	for _, name := range strings.Fields(names) {
		s.copied[name] = m.forward(s.names[name])
	}
	s.Arena = m.Arena
}

// objectsOf has those of some words that are names of objects.
func objectsOf(words ...string) string {
	return strings.Join(slices.DeleteFunc(slices.Clone(words), func(word string) bool {
		_, known := sceneOf(ins(impl.ONil, 0), "self |").names[word]
		return !known
	}), " ")
}

// lay: "box.0=5": a slot of an object, by its number, is that value.
func (s *scene) lay(words string) {
	for _, word := range strings.Fields(words) {
		slot, value, _ := strings.Cut(word, "=")
		name, number, _ := strings.Cut(slot, ".")
		n, _ := strconv.Atoi(number)
		h, _ := impl.ReadHead(s.Words[s.place(name)])
		copy(s.Words[s.place(name)+impl.Slots(h.Kind, h.Size)[n]:], pairs(s.val(value)))
	}
}

// deed is what an instruction does. In a cycle it copies some objects, in that order; "lays" are the slots that are others then, by what was loaded from them or laid into them.
type deed struct {
	i      impl.Ins
	stack  string
	copies string
	then   string
	lays   string
	more   func(s *scene) // what is another one beside
	ahead  func(s *scene) // what is another one ahead of it
}

// checkDeed: all words of the machine behind the step, without a cycle and with one.
func checkDeed(t *testing.T, d deed) {
	t.Helper()
	name := toldIns(d.i) + " of " + d.stack
	still := framedScene(d.i, d.stack)
	if d.ahead != nil {
		d.ahead(still)
	}
	for _, s := range still.stages(d.ahead == nil && !strings.Contains(d.stack, "lib:9 ")) {
		want := s.twin()
		want.copies(d.copies)
		want.Steps++
		want.Words[want.place("run")+4] = 1
		want.setStack("0 0 " + d.then)
		want.lay(d.lays)
		if d.more != nil {
			d.more(want)
		}
		got, ok := impl.Step(s.Machine)
		if !ok || !sameMachine(got, want.Machine) {
			t.Errorf("%s, a cycle %v: %v\n%s\nwant\n%s", name, s.Cycle, ok, toldMachine(got), toldMachine(want.Machine))
		}
		checkDo(t, name, s.Machine)
		if !impl.MachineOk(got) {
			t.Errorf("%s: what is left is not right", name)
		}
	}
}

func checkDeeds(t *testing.T, list ...deed) {
	t.Helper()
	for _, d := range list {
		checkDeed(t, d)
	}
}

// goesTo: the next place is that one.
func goesTo(place int) func(s *scene) {
	return func(s *scene) { s.Words[s.place("run")+4] = uint64(place) }
}

func TestWhatIsPushed(t *testing.T) {
	checkDeeds(t,
		deed{i: ins(impl.ONil, 0), stack: "self 1 | 2", then: "self 1 | 2 nil"},
		deed{i: ins(impl.ONil, 0), stack: "self |", then: "self | nil"},
		deed{i: ins(impl.OBool, 0), stack: "self | ab", then: "self | ab no"},
		deed{i: ins(impl.OBool, 1), stack: "self | ab", then: "self | ab yes"},
		deed{i: ins(impl.OInt, -5), stack: "self 1 2 3 |", then: "self 1 2 3 | -5"},
		deed{i: ins(impl.OInt, -9223372036854775808), stack: "self |", then: "self | -9223372036854775808"},
		deed{i: ins(impl.OInt, 9223372036854775807), stack: "self |", then: "self | 9223372036854775807"},
		deed{i: ins(impl.OLib, 1), stack: "self |", then: "self | lib:1"},
		deed{i: ins(impl.OLib, 11), stack: "self |", then: "self | lib:11"},
		deed{i: ins(impl.OMark, 0), stack: "self 9 | ab", then: "self 9 | ab 0 0"},
	)
}

func TestLocalsAndBoxes(t *testing.T) {
	for _, v := range []string{"nil", "yes", "no", "-3", "lib:20"} {
		checkDeeds(t,
			deed{i: ins(impl.OLocal, 1), stack: "self ab " + v + " | cd", then: "self ab " + v + " | cd " + v},
			deed{i: ins(impl.OSet, 1), stack: "self ab cd | 1 " + v, then: "self ab " + v + " | 1"},
			deed{i: ins(impl.OSetBox, 0), stack: "self bin | " + v, copies: "bin", then: "self *bin |", lays: "bin.0=" + v},
			deed{i: ins(impl.OSetUp, 0), stack: "self | " + v, copies: "self box", then: "*self |", lays: "self.0=*box box.0=" + v},
			deed{i: ins(impl.OPop, 0), stack: "self ab | cd " + v, then: "self ab | cd"},
			deed{i: ins(impl.ODup, 0), stack: "self ab | cd " + v, then: "self ab | cd " + v + " " + v},
		)
	}
	for _, v := range []string{"ab", "table", "bare", "co", "box", "plain"} {
		checkDeeds(t,
			deed{i: ins(impl.OLocal, 1), stack: "self cd " + v + " |", copies: v, then: "self cd *" + v + " | *" + v},
			deed{i: ins(impl.OSet, 0), stack: "self cd 3 | " + v, copies: v, then: "self *" + v + " 3 |"},
			deed{i: ins(impl.OSetBox, 1), stack: "self 1 bin | " + v, copies: v + " bin", then: "self 1 *bin |", lays: "bin.0=*" + v},
			deed{i: ins(impl.OPop, 0), stack: "self | cd " + v, copies: v, then: "self | cd"},
			deed{i: ins(impl.ODup, 0), stack: "self | cd " + v, copies: v, then: "self | cd *" + v + " *" + v},
		)
	}
	checkDeeds(t,
		// The slot is loaded, then what the box has.
		deed{i: ins(impl.OBoxed, 0), stack: "self box | 1", copies: "box", then: "self *box | 1 7"},
		deed{i: ins(impl.OBoxed, 1), stack: "self 1 bin |", copies: "bin ab", then: "self 1 *bin | *ab", lays: "bin.0=*ab"},
		// The value is taken ahead of all, then the function is loaded, then its slot.
		deed{i: ins(impl.OUp, 0), stack: "self |", copies: "self box", then: "*self | 7", lays: "self.0=*box"},
		deed{i: ins(impl.OUp, 1), stack: "self 1 | 2", copies: "self bin ab", then: "*self 1 | 2 *ab", lays: "self.1=*bin bin.0=*ab"},
		deed{i: ins(impl.OSetUp, 1), stack: "self | cd", copies: "cd self bin", then: "*self |", lays: "self.1=*bin bin.0=*cd"},
		// A box in a box, and one that is set to itself.
		deed{i: ins(impl.OSetBox, 0), stack: "self bin | bin", copies: "bin", then: "self *bin |", lays: "bin.0=*bin"},
		// The coroutine itself was copied already.
		deed{i: ins(impl.ODup, 0), stack: "self | run", then: "self | *run *run"},
	)
}

func TestJumps(t *testing.T) {
	checkDeeds(t,
		deed{i: ins(impl.OJump, 0), stack: "self | ab", then: "self | ab", more: goesTo(0)},
		deed{i: ins(impl.OJump, 3), stack: "self |", then: "self |", more: goesTo(3)},
	)
	for _, v := range []string{"nil", "no"} {
		checkDeeds(t,
			deed{i: ins(impl.OJumpNot, 3), stack: "self 1 | 2 " + v, then: "self 1 | 2", more: goesTo(3)},
			deed{i: ins(impl.OAnd, 3), stack: "self 1 | 2 " + v, then: "self 1 | 2 " + v, more: goesTo(3)},
			deed{i: ins(impl.OOr, 3), stack: "self 1 | 2 " + v, then: "self 1 | 2"},
		)
	}
	for _, v := range []string{"yes", "0", "-1", "lib:3", "ab", "empty", "plain", "co", "box"} {
		copies := objectsOf(v)
		checkDeeds(t,
			deed{i: ins(impl.OJumpNot, 3), stack: "self 1 | 2 " + v, copies: copies, then: "self 1 | 2"},
			deed{i: ins(impl.OAnd, 3), stack: "self 1 | 2 " + v, copies: copies, then: "self 1 | 2"},
			// It is only looked at.
			deed{i: ins(impl.OOr, 3), stack: "self 1 | 2 " + v, then: "self 1 | 2 " + v, more: goesTo(3)},
		)
	}
}
