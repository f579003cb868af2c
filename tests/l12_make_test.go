package tests

import (
	"fmt"
	"strings"
	"testing"

	"loop.example/g00101/impl"
)

// checkMaking: as checkDeed, of an instruction that asks for one object, "new". What is copied by the deed is loaded ahead of the asking; in a cycle two objects are gone over then.
func checkMaking(t *testing.T, d deed, object func(s *scene, l *layer) impl.Val) {
	t.Helper()
	name := toldIns(d.i) + " of " + d.stack
	for _, s := range sceneOf(d.i, d.stack).stages(true) {
		want := s.twin()
		want.copies(d.copies)
		if want.Cycle {
			want.Arena, _ = modelStep(want.Arena, 2)
			want.find()
		}
		l := &layer{want.Words, want.Top}
		want.names["new"] = object(want, l)
		want.Top = l.at
		want.Steps++
		want.Words[want.place("run")+4] = 1
		want.setStack("0 0 " + d.then)
		want.lay(d.lays)
		if d.more != nil {
			d.more(want)
		}
		got, ok := impl.Step(s.Machine)
		if !ok || !sameMachine(got, want.Machine) {
			t.Errorf("%s, a cycle %v: %v\n%s\nwant\n%s", name, s.Cycle, ok, toldMachine(got), toldMachine(want.Machine))
		}
		checkDo(t, name, s.Machine)
	}
}

func newText(text string) func(s *scene, l *layer) impl.Val {
	return func(s *scene, l *layer) impl.Val { return ref(impl.TStr, l.text(text)) }
}

func nextSerial(s *scene) int {
	s.Serial++
	return s.Serial - 1
}

func newTable(s *scene, l *layer) impl.Val {
	return ref(impl.TTab, l.table(nextSerial(s), 0, impl.Val{}))
}

func newBox(v string) func(s *scene, l *layer) impl.Val {
	return func(s *scene, l *layer) impl.Val { return ref(impl.TCell, l.cell(s.val(v))) }
}

func newFn(proto uint64, cells ...string) func(s *scene, l *layer) impl.Val {
	return func(s *scene, l *layer) impl.Val {
		var vals []impl.Val
		for _, cell := range cells {
			vals = append(vals, s.val(cell))
		}
		return ref(impl.TFun, l.fun(nextSerial(s), proto, vals...))
	}
}

func newCo(fun string) func(s *scene, l *layer) impl.Val {
	return func(s *scene, l *layer) impl.Val {
		return ref(impl.TCo, l.co(nextSerial(s), [4]uint64{0, 3, 3, 0}, impl.Val{}, num(0), num(0), s.val(fun)))
	}
}

func TestWhatIsMade(t *testing.T) {
	for i, text := range []string{"", "eight by", "nine byte"} {
		checkMaking(t, deed{i: ins(impl.OText, i), stack: "self 1 | ab", then: "*self 1 | *ab new"}, newText(text))
	}
	checkMaking(t, deed{i: ins(impl.OTab, 0), stack: "self 1 | ab", then: "*self 1 | *ab new"}, newTable)
	// What the box is to have is loaded ahead of it.
	for _, v := range []string{"nil", "yes", "-3", "lib:4"} {
		checkMaking(t, deed{i: ins(impl.OBox, 1), stack: "self cd " + v + " | 2", then: "*self *cd new | 2"}, newBox(v))
	}
	for _, v := range []string{"ab", "table", "plain", "co", "box", "bin"} {
		checkMaking(t, deed{i: ins(impl.OBox, 0), stack: "self " + v + " cd |", copies: v, then: "*self new *cd |"}, newBox("*"+v))
	}
	checkMaking(t, deed{i: ins(impl.OOp, impl.OpJoin), stack: "self | 1 ab cd", copies: "cd ab", then: "*self | 1 new"}, newText("abcd"))
	checkMaking(t, deed{i: ins(impl.OOp, impl.OpJoin), stack: "self | ab ab", copies: "ab", then: "*self | new"}, newText("abab"))
	checkMaking(t, deed{i: ins(impl.OCall, 1), stack: "self | 0 0 lib:8 plain", copies: "plain", then: "*self | new"}, newCo("*plain"))
	checkMaking(t, deed{i: ins(impl.OCall, 3), stack: "self 1 | 2 0 0 lib:8 odd ab cd", copies: "odd", then: "*self 1 | 2 new"}, newCo("*odd"))
}

// The argument is only looked at.
func TestTextsThatAreTold(t *testing.T) {
	texts := map[string][2]string{
		"": {"nil", "nil"}, "nil": {"nil", "nil"}, "yes": {"true", "bool"}, "no": {"false", "bool"}, "-12": {"-12", "int"}, "ab": {"ab", "text"},
		"long 1": {strings.Repeat("x", 159), "text"}, "table": {"table:5", "table"}, "self": {"fn:1", "fn"}, "lib:3": {"lib:3", "fn"},
		"co": {"co:7", "co"}, "run": {"co:8", "co"}, "box": {"", ""}, "-9223372036854775808": {"-9223372036854775808", "int"},
	}
	for args, want := range texts {
		n := len(strings.Fields(args))
		checkMaking(t, deed{i: ins(impl.OCall, n), stack: "self 1 | 2 0 0 lib:2 " + args, then: "*self 1 | 2 new"}, newText(want[0]))
		checkMaking(t, deed{i: ins(impl.OCall, n), stack: "self 1 | 2 0 0 lib:3 " + args, then: "*self 1 | 2 new"}, newText(want[1]))
	}
}

// Proto 2 has two Ups: the slot 0 of who makes it, and that one's Up 1.
func TestFunctionsThatAreMade(t *testing.T) {
	checkMaking(t, deed{i: ins(impl.OFn, 2), stack: "self box | 1", then: "*self *box | 1 new"}, newFn(2, "*box", "*bin"))
	checkMaking(t, deed{i: ins(impl.OFn, 2), stack: "self bin ab |", then: "*self *bin *ab | new"}, newFn(2, "*bin", "*bin"))
	checkMaking(t, deed{i: ins(impl.OFn, 3), stack: "self |", then: "*self | new"}, newFn(3))
	checkMaking(t, deed{i: ins(impl.OFn, 0), stack: "bare |", then: "*bare | new"}, newFn(0))
	// Looked at ahead of the asking: nothing is loaded, nothing made.
	for _, v := range without(someOfEach(), "box", "bin") {
		checkDeed(t, fails(impl.ErrType, ins(impl.OFn, 2), "self "+v+" box |", ""))
	}
	checkDeed(t, fails(impl.ErrType, ins(impl.OFn, 2), "bare box |", ""))
}

// What the Ups name is loaded behind the asking, Up by Up: where the collector has not gone over it by then, it lies behind the new function.
func TestUpsAreLoadedBehindTheAsking(t *testing.T) {
	s := sceneOf(ins(impl.OFn, 2), "self box |")
	copy(s.Words[s.place("run")+5:], pairs(s.val("co"))) // it is copied first, and gone over in place of the function
	s = s.flipped()
	want := s.twin()
	want.copies("co self box plain") // the coroutine's slots, in order, then those of the other one
	want.lay("run.0=*co run.3=*self run.4=*box co.3=*plain")
	want.Scan = want.place("self")
	l := &layer{want.Words, want.Top}
	made := l.fun(nextSerial(want), 2, want.val("*box"), impl.Val{})
	want.Top = l.at
	want.copies("bin") // the Up of the function that runs
	want.lay("self.1=*bin")
	copy(want.Words[made+4:], pairs(want.val("*bin")))
	copy(want.Words[want.place("run")+7+2*4:], pairs(ref(impl.TFun, made)))
	want.Words[want.place("run")+2]++
	want.Words[want.place("run")+4] = 1
	want.Steps++
	got := checkDo(t, "fn", s.Machine)
	if !sameMachine(got, want.Machine) {
		t.Errorf("%s\nwant\n%s", toldMachine(got), toldMachine(want.Machine))
	}
}

// A table gets its first block: the value, the key and the table are taken ahead of the asking.
func TestPutsThatAsk(t *testing.T) {
	checkMaking(t, deed{i: ins(impl.OPut, 0), stack: "self | 1 empty 6 cd", copies: "cd empty", then: "*self | 1"}, func(s *scene, l *layer) impl.Val {
		block := ref(impl.TBlk, l.block(4, entry{2, num(6), s.val("*cd")}))
		s.Words[s.place("empty")+1] = 1
		copy(s.Words[s.place("empty")+2:], pairs(block))
		return block
	})
}

// Pushing comes behind: what was made is there, though nobody has it.
func TestFullStacksOfWhatIsMade(t *testing.T) {
	over := func(s *scene) { endsWith(num(impl.ErrStack))(s); s.Deep = true }
	full := "self |" + ones(57)
	checkMaking(t, deed{i: ins(impl.OText, 1), stack: full, then: "self", more: over}, newText("eight by"))
	checkMaking(t, deed{i: ins(impl.OTab, 0), stack: full, then: "self", more: over}, newTable)
	checkMaking(t, deed{i: ins(impl.OFn, 3), stack: full, then: "self", more: over}, newFn(3))
	almost := "self |" + ones(56)
	checkMaking(t, deed{i: ins(impl.OText, 1), stack: almost, then: "*" + almost + " new"}, newText("eight by"))
	checkMaking(t, deed{i: ins(impl.OTab, 0), stack: almost, then: "*" + almost + " new"}, newTable)
	checkMaking(t, deed{i: ins(impl.OFn, 3), stack: almost, then: "*" + almost + " new"}, newFn(3))
}

// Texts of 160 bytes may be joined of two, of 161 not.
func TestLongTexts(t *testing.T) {
	checkDeed(t, fails(impl.ErrLong, ins(impl.OOp, impl.OpJoin), "self | long ab", "ab long"))
	checkDeed(t, fails(impl.ErrLong, ins(impl.OOp, impl.OpJoin), "self | long long", "long"))
	for _, n := range []int{0, 1, 2, 159, 160} {
		m := booted(t, fmt.Sprintf("return %q .. %q;", strings.Repeat("a", n), strings.Repeat("b", 160-n)), 400)
		got, _ := impl.RunMachine(m, 3)
		if v, _ := impl.GetVal(got.Words, got.Roots[0].N+13); v.Tag != impl.TStr || got.Words[v.N+1] != 160 {
			t.Error(n, "and the rest:", v)
		}
		m = booted(t, fmt.Sprintf("return %q .. %q;", strings.Repeat("a", min(n+1, 160)), strings.Repeat("b", 161-min(n+1, 160))), 400)
		if got, state := impl.RunMachine(m, 3); state != impl.MachError || got.Error != num(impl.ErrLong) {
			t.Error(n, "and more:", state, got.Error)
		}
	}
}

// asking has each instruction that asks, and how many words of it.
func asking() map[string]deed {
	return map[string]deed{
		"2":   {i: ins(impl.OText, 0), stack: "self nil |"},
		"3":   {i: ins(impl.OText, 1), stack: "self nil |"},
		"4":   {i: ins(impl.OText, 2), stack: "self nil | ab"},
		"3 a": {i: ins(impl.OBox, 1), stack: "self nil ab |"},
		"3 b": {i: ins(impl.OBox, 1), stack: "self nil 5 |"},
		"6":   {i: ins(impl.OFn, 2), stack: "self nil |"},
		"2 a": {i: ins(impl.OFn, 3), stack: "self nil |"},
		"4 a": {i: ins(impl.OTab, 0), stack: "self nil |"},
		"3 c": {i: ins(impl.OOp, impl.OpJoin), stack: "self nil | ab cd"},
		// What was taken is in use as long as the instruction is done.
		"22":   {i: ins(impl.OOp, impl.OpJoin), stack: "self nil | long cut"},
		"3 d":  {i: ins(impl.OCall, 1), stack: "self nil | 0 0 lib:2 12"},
		"22 a": {i: ins(impl.OCall, 1), stack: "self nil | 0 0 lib:2 long"},
		"3 e":  {i: ins(impl.OCall, 1), stack: "self nil | 0 0 lib:3 table"},
		"127":  {i: ins(impl.OCall, 1), stack: "self nil | 0 0 lib:8 plain"},
		"17":   {i: ins(impl.OPut, 0), stack: "self nil | empty 1 ab"},
		"33":   {i: ins(impl.OPut, 0), stack: "self nil | table 2 ab"},
	}
}

// ladenScene is that of a deed with so much beside that what can be reached and what is asked for leave so many words free of a half; its slot 0 has that.
func ladenScene(t *testing.T, d deed, n int, spare int) impl.Machine {
	t.Helper()
	s := sceneOf(d.i, strings.ReplaceAll(d.stack, "cut", "ab"))
	if strings.Contains(d.stack, "cut") { // a text of one byte
		at := s.place("ab")
		s.Words[at+1], s.Words[at+2] = 1, 'a'
	}
	if strings.Contains(d.stack, "table 2") { // three entries that live: the new block has twice as many
		copy(s.Words[s.place("block")+15:], pairs(yes()))
	}
	if d.i == ins(impl.OFn, 2) {
		copy(s.Words[s.place("run")+7+2*3:], pairs(s.val("box")))
	}
	m, _ := impl.CollectNow(s.Machine)
	rest := m.Semi - 1 - impl.Reached(m.Arena) - n - spare
	l := &layer{m.Words, m.Top}
	last := 2 + (rest+1)%3
	v := ref(impl.TStr, l.text(strings.Repeat("z", 8*(last-2))))
	for range (rest - last) / 3 {
		v = ref(impl.TCell, l.cell(v))
	}
	m.Top = l.at
	if d.i == ins(impl.OFn, 2) {
		box, _ := impl.GetVal(m.Words, m.Roots[0].N+7+2*3)
		copy(m.Words[box.N+1:], pairs(v))
	} else {
		copy(m.Words[m.Roots[0].N+7+2*3:], pairs(v))
	}
	if !impl.MachineOk(m) || impl.Reached(m.Arena)+n+spare != m.Semi-1 {
		t.Fatalf("%s: laden with %d of %d", toldIns(d.i), impl.Reached(m.Arena), m.Semi-1)
	}
	return m
}

// Room lacks just when what can be reached and what is asked for are more than the half has, whatever was copied ahead.
func TestRoomThatLacks(t *testing.T) {
	for name, d := range asking() {
		var n int
		fmt.Sscan(name, &n)
		for _, spare := range []int{-1, 0, 1} {
			m := ladenScene(t, d, n, spare)
			flipped, _ := impl.FlipNow(m)
			list := []impl.Machine{m, flipped}
			for k := 1; k < 6; k++ {
				copied, _ := impl.CopyNow(flipped, k)
				list = append(list, copied)
			}
			for i, m := range list {
				got := checkDo(t, name, m)
				if lacks := spare < 0; lacks != got.Short || lacks != (got.State == impl.MachError) || lacks && got.Error != num(impl.ErrMemory) {
					t.Errorf("%s of %s, %d spare, %d: %d %v %v", toldIns(d.i), d.stack, spare, i, got.State, got.Error, got.Short)
				}
				if got.State == 0 && impl.Free(got.Arena) < 0 {
					t.Error("free", impl.Free(got.Arena))
				}
			}
		}
	}
}

// Serial at MaxSerial: what has one is not made, and nothing is copied for it; what has none is.
func TestTheLastSerial(t *testing.T) {
	for name, d := range asking() {
		withSerial := d.i.Op == impl.OFn || d.i.Op == impl.OTab || strings.Contains(d.stack, "lib:8")
		for _, serial := range []int{impl.MaxSerial - 1, impl.MaxSerial} {
			m := ladenScene(t, d, 127, 200)
			m.Serial = serial
			flipped, _ := impl.FlipNow(m)
			for _, m := range []impl.Machine{m, flipped} {
				got := checkDo(t, name, m)
				lacks := withSerial && serial == impl.MaxSerial
				if lacks != got.Short || lacks != (got.State == impl.MachError) || lacks && got.Error != num(impl.ErrMemory) {
					t.Errorf("%s of %s at %d: %d %v %v", toldIns(d.i), d.stack, serial, got.State, got.Error, got.Short)
				}
				if lacks && (got.Serial != serial || got.Scan != m.Scan || got.To != m.To) {
					t.Errorf("%s: something was done for it", toldIns(d.i))
				}
				if withSerial && !lacks && got.Serial != impl.MaxSerial {
					t.Error("serial", got.Serial)
				}
			}
		}
	}
}

// A table of 48 entries takes no more, whatever the key; it stays as it is. One that is there already can be set.
func TestFullTables(t *testing.T) {
	text := "local t = {}; local i = 0; while i < 48 { i = i + 1; t[i] = i; } %s"
	for last, want := range map[string]impl.Val{
		"t[49] = 1;": num(impl.ErrFull), "t[0] = 1;": num(impl.ErrFull), `t.x = {};`: num(impl.ErrFull), "t[t] = t;": num(impl.ErrFull),
		"t[1] = 2;": {}, "t[49] = nil;": {}, "t[7] = nil;": {}, "t[7] = nil; t[99] = 1; t[7] = 3;": num(impl.ErrFull), "t[7] = nil; t[99] = 1;": {},
	} {
		m := booted(t, fmt.Sprintf(text, last), 2000)
		got, state := impl.RunMachine(m, impl.MaxFuel)
		if state == impl.MachFuel || (state == impl.MachDone) != (want == impl.Val{}) || got.Error != want {
			t.Error(last, state, got.Error)
		}
	}
	// While a cycle runs, a table that is refused is left where it lies: only what was taken is copied.
	m := booted(t, fmt.Sprintf(text, "t.x = {};"), 2000)
	for m.State == 0 && nextTold(m) != "text 0" {
		m, _ = impl.Step(m)
	}
	m, _ = impl.RunMachine(m, 2)
	m, _ = impl.FlipNow(m)
	if got := checkDo(t, "a full table", m); got.State != impl.MachError || got.Error != num(impl.ErrFull) || got.Copied != 127+4+4+3 {
		t.Error(nextTold(m), got.Error, got.Copied)
	}
}
