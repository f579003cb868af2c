package tests

import (
	"fmt"
	"slices"
	"strings"
	"testing"

	"loop.example/g00101/impl"
)

// stepper does one instruction by the document's words, row by row, from the models of chapters 2 to 6 alone. An error is a panic with its value.
type stepper struct {
	impl.Machine
	floor int
}

type lifted struct{ v impl.Val }

// stuck: a link that is none, or a base below 3 where one is to go on.
type stuck struct{}

// modelDo is what Step must answer.
func modelDo(m impl.Machine) (impl.Machine, bool) {
	if !modelMachineOk(m) || m.State != 0 {
		return m, false
	}
	s := &stepper{Machine: m}
	s.Arena = moverOf(m.Arena).Arena
	s.Out = slices.Clone(m.Out)
	s.Steps++
	s.attempt(s.row)
	for r := 1; r < 6; r++ {
		s.Roots[r] = impl.Val{}
	}
	return s.Machine, true
}

func (s *stepper) attempt(do func()) {
	defer func() {
		switch x := recover().(type) {
		case nil:
		case stuck:
			s.State, s.Error = impl.MachError, num(impl.ErrType)
		case lifted:
			s.attempt(func() { s.raise(x.v) })
		default:
			panic(x)
		}
	}()
	do()
}

func (s *stepper) lift(code int) {
	if code == impl.ErrStack {
		s.Deep = true
	}
	if code == impl.ErrMemory {
		s.Short = true
	}
	panic(lifted{num(code)})
}

func (s *stepper) liftUnless(right bool, code int) {
	if !right {
		s.lift(code)
	}
}

// The words of the coroutine that runs, by their numbers from 1 on, and its stack.
func (s *stepper) word(i int) int       { return int(s.Words[s.Roots[0].N+i]) }
func (s *stepper) setWord(i int, n int) { s.Words[s.Roots[0].N+i] = uint64(n) }

func (s *stepper) val(i int) impl.Val {
	v, _ := impl.GetVal(s.Words, s.Roots[0].N+7+2*i)
	return v
}

func (s *stepper) setVal(i int, v impl.Val) {
	copy(s.Words[s.Roots[0].N+7+2*i:], pairs(v))
}

func (s *stepper) load(place int) (v impl.Val) {
	s.Arena, v = loadedAt(s.Arena, place)
	return v
}

func (s *stepper) loadVal(i int) impl.Val { return s.load(s.Roots[0].N + 7 + 2*i) }

// there is where the object of a reference lies, whether it was copied or not.
func (s *stepper) there(v impl.Val) int {
	if to, moved := impl.Forwarded(s.Words[v.N]); moved {
		return to
	}
	return v.N
}

func (s *stepper) head(v impl.Val) impl.Head {
	h, _ := impl.ReadHead(s.Words[s.there(v)])
	return h
}

// shrink: all from that number on is gone.
func (s *stepper) shrink(top int) {
	for i := top; i < 60; i++ {
		s.setVal(i, impl.Val{})
	}
	s.setWord(2, top)
}

func (s *stepper) push(v impl.Val) {
	s.liftUnless(s.word(2) < 60, impl.ErrStack)
	s.setVal(s.word(2), v)
	s.setWord(2, s.word(2)+1)
}

func (s *stepper) pop(r int) impl.Val {
	s.liftUnless(s.word(2)-1 >= s.floor, impl.ErrType)
	s.Roots[r] = s.loadVal(s.word(2) - 1)
	s.shrink(s.word(2) - 1)
	return s.Roots[r]
}

// proto is that of a function that is looked at; nil where it has no Proto's number.
func (s *stepper) proto(v impl.Val) *impl.Proto {
	if v.Tag != impl.TFun {
		return nil
	}
	if n := int(s.Words[s.there(v)+1]); n < len(s.Module.Protos) {
		return &s.Module.Protos[n]
	}
	return nil
}

func (s *stepper) raise(v impl.Val) {
	for base := s.word(3); base != 3; {
		low, up := s.linksAt(base)
		if up%2 == 1 {
			s.shrink(base - 3)
			s.setWord(3, low)
			s.setWord(4, up/2)
			s.Failed = true
			s.push(v)
			return
		}
		base = low
	}
	if s.over() {
		s.raise(v)
		return
	}
	s.State, s.Error = impl.MachError, v
	if impl.IsRef(v) {
		s.Error.N = 0
	}
}

func (s *stepper) linksAt(base int) (int, int) {
	if base < 6 {
		panic(stuck{})
	}
	low, up := s.val(base-3), s.val(base-2)
	if low.Tag != impl.TInt || low.N < 3 || low.N > base-3 || up.Tag != impl.TInt || up.N < 0 || up.N > 8191 {
		panic(stuck{})
	}
	return low.N, up.N
}

// over: the coroutine that runs is over; it tells whether somebody has resumed it, who runs then.
func (s *stepper) over() bool {
	s.shrink(0)
	s.setWord(1, 3)
	s.setWord(3, 0)
	s.setWord(4, 0)
	back := s.loadBack()
	if back.Tag == impl.TNil {
		return false
	}
	s.runs(back)
	return true
}

func (s *stepper) loadBack() impl.Val {
	back := s.load(s.Roots[0].N + 5)
	copy(s.Words[s.Roots[0].N+5:], pairs(impl.Val{}))
	return back
}

func (s *stepper) runs(co impl.Val) {
	s.Roots[0] = co
	s.setWord(1, 2)
	if s.word(3) < 3 {
		panic(stuck{})
	}
}

func (s *stepper) row() {
	if s.Roots[0].Tag != impl.TCo || s.word(3) < 3 {
		panic(stuck{})
	}
	p := s.proto(s.val(s.word(3) - 1))
	if p == nil || s.word(4) >= len(p.Code) || s.word(2) < s.word(3)+p.Slots {
		panic(stuck{})
	}
	s.floor = s.word(3) + p.Slots
	i := p.Code[s.word(4)]
	s.setWord(4, s.word(4)+1)
	switch word := opWords[i.Op]; word {
	case "nil", "bool", "int", "lib":
		tags := map[string]int{"nil": impl.TNil, "bool": impl.TBool, "int": impl.TInt, "lib": impl.TLib}
		s.push(impl.Val{Tag: tags[word], N: i.A})
	case "text":
		s.push(s.newText(s.Module.Texts[i.A]))
	case "local":
		s.push(s.loadVal(s.word(3) + i.A))
	case "set":
		s.setVal(s.word(3)+i.A, s.pop(1))
	case "boxed":
		s.push(s.load(s.boxOf(i.A).N + 1))
	case "setbox":
		v := s.pop(1)
		copy(s.Words[s.boxOf(i.A).N+1:], pairs(v))
	case "up":
		s.push(s.load(s.upOf(i.A).N + 1))
	case "setup":
		v := s.pop(1)
		copy(s.Words[s.upOf(i.A).N+1:], pairs(v))
	case "jump":
		s.setWord(4, i.A)
	case "jumpnot":
		if !isSo(s.pop(1)) {
			s.setWord(4, i.A)
		}
	case "and", "or":
		s.liftUnless(s.word(2) > s.floor, impl.ErrType)
		if isSo(s.val(s.word(2)-1)) == (word == "or") {
			s.setWord(4, i.A)
		} else {
			s.pop(1)
		}
	case "mark":
		s.push(num(0))
		s.push(num(0))
	case "pop":
		s.pop(1)
	case "dup":
		s.liftUnless(s.word(2) > s.floor, impl.ErrType)
		s.push(s.loadVal(s.word(2) - 1))
	default:
		s.rowThatMakes(word, i.A)
	}
}

func isSo(v impl.Val) bool {
	return v.Tag != impl.TNil && (v.Tag != impl.TBool || v.N != 0)
}

// rowThatMakes: those rows that may ask for something, and those of frames.
func (s *stepper) rowThatMakes(word string, a int) {
	switch word {
	case "box":
		s.Roots[1] = s.loadVal(s.word(3) + a)
		at := s.ask(impl.KCell, 2)
		copy(s.Words[at+1:], pairs(s.Roots[1]))
		s.setVal(s.word(3)+a, ref(impl.TCell, at))
	case "fn":
		s.makeFn(a)
	case "tab":
		s.push(ref(impl.TTab, s.ask(impl.KTab, 3)))
	case "index":
		k, t := s.pop(2), s.pop(1)
		s.liftUnless(t.Tag == impl.TTab, impl.ErrType)
		if k.Tag == impl.TCell {
			s.Roots[2] = impl.Val{}
		}
		s.Arena, _ = modelGet(s.Arena, 1, 2, 3)
		s.push(s.Roots[3])
	case "put":
		v, k, t := s.pop(3), s.pop(2), s.pop(1)
		s.liftUnless(t.Tag == impl.TTab && v.Tag != impl.TCell && k.Tag != impl.TCell, impl.ErrType)
		s.liftUnless(k.Tag != impl.TNil, impl.ErrKey)
		var code int
		s.Arena, code = modelSet(s.Arena, 1, 2, 3)
		s.liftUnless(code != impl.Bad, impl.ErrFull)
		s.liftUnless(code != impl.NoMem, impl.ErrMemory)
	case "op":
		b, v := s.pop(2), s.pop(1)
		s.push(s.reckon(a, v, b))
	case "turn":
		s.push(s.turned(a, s.pop(1)))
	case "call":
		s.call(a)
	case "return":
		s.back(s.pop(1))
	}
}

// boxOf loads the slot a, a box.
func (s *stepper) boxOf(a int) impl.Val {
	v := s.loadVal(s.word(3) + a)
	s.liftUnless(v.Tag == impl.TCell, impl.ErrType)
	return v
}

// upOf loads the function, and its slot a.
func (s *stepper) upOf(a int) impl.Val {
	f := s.loadVal(s.word(3) - 1)
	s.liftUnless(a < (s.head(f).Size-1)/2, impl.ErrType)
	return s.load(f.N + 2 + 2*a)
}

// ask: a kind with a serial needs one.
func (s *stepper) ask(kind int, size int) int {
	withSerial := kind == impl.KTab || kind == impl.KFun || kind == impl.KCo
	s.liftUnless(!withSerial || s.Serial < 1000000000, impl.ErrMemory)
	var at, code int
	s.Arena, at, code = modelAsk(s.Arena, kind, size)
	s.liftUnless(code == impl.Done, impl.ErrMemory)
	return at
}

func (s *stepper) newText(text string) impl.Val {
	at := s.ask(impl.KStr, 1+(len(text)+7)/8)
	(&layer{s.Words, at}).text(text)
	return ref(impl.TStr, at)
}

func (s *stepper) makeFn(n int) {
	ups := s.Module.Protos[n].Ups
	for _, up := range ups {
		if up.Local {
			s.liftUnless(s.val(s.word(3)+up.Index).Tag == impl.TCell, impl.ErrType)
		} else {
			s.liftUnless(up.Index < (s.head(s.val(s.word(3)-1)).Size-1)/2, impl.ErrType)
		}
	}
	at := s.ask(impl.KFun, 1+2*len(ups))
	s.Words[at+1] = uint64(n)
	for i, up := range ups {
		var box impl.Val
		if up.Local {
			box = s.loadVal(s.word(3) + up.Index)
		} else {
			box = s.upOf(up.Index)
		}
		copy(s.Words[at+2+2*i:], pairs(box))
	}
	s.push(ref(impl.TFun, at))
}

func yesIf(so bool) impl.Val {
	if so {
		return yes()
	}
	return impl.Val{Tag: impl.TBool}
}

func (s *stepper) reckon(op int, a impl.Val, b impl.Val) impl.Val {
	if op == impl.OpEq || op == impl.OpNe {
		return yesIf(modelSame(s.Arena, 1, 2) == (op == impl.OpEq))
	}
	s.liftUnless(a.Tag == b.Tag && (a.Tag == impl.TInt && op != impl.OpJoin || a.Tag == impl.TStr && (op == impl.OpJoin || op == impl.OpLt || op == impl.OpLe)), impl.ErrType)
	if a.Tag == impl.TStr {
		one, two := model{Arena: s.Arena}.textOf(a.N), model{Arena: s.Arena}.textOf(b.N)
		if op != impl.OpJoin {
			return yesIf(order(one, two) < 0 || op == impl.OpLe && one == two)
		}
		s.liftUnless(len(one)+len(two) <= 160, impl.ErrLong)
		return s.newText(one + two)
	}
	switch op {
	case impl.OpAdd:
		return num(a.N + b.N)
	case impl.OpSub:
		return num(a.N - b.N)
	case impl.OpMul:
		return num(a.N * b.N)
	case impl.OpLt:
		return yesIf(a.N < b.N)
	case impl.OpLe:
		return yesIf(a.N <= b.N)
	}
	s.liftUnless(b.N != 0, impl.ErrZero)
	if b.N == -1 { // the only one that wraps
		return num(map[int]int{impl.OpDiv: -a.N, impl.OpMod: 0}[op])
	}
	quotient := a.N / b.N
	if op == impl.OpDiv {
		return num(quotient)
	}
	return num(a.N - quotient*b.N)
}

func (s *stepper) turned(turn int, v impl.Val) impl.Val {
	switch {
	case turn == impl.TurnNot:
		return yesIf(!isSo(v))
	case turn == impl.TurnNeg && v.Tag == impl.TInt:
		return num(0 - v.N)
	case turn == impl.TurnLen && v.Tag == impl.TStr:
		return num(int(s.Words[v.N+1]))
	case turn == impl.TurnLen && v.Tag == impl.TTab:
		return num(modelBorder(s.Arena, 1))
	}
	s.lift(impl.ErrType)
	return impl.Val{}
}

func (s *stepper) back(v impl.Val) {
	if s.word(3) == 3 {
		if s.over() {
			s.push(v)
		} else {
			s.State = impl.MachDone
		}
		return
	}
	low, up := s.linksAt(s.word(3))
	s.shrink(s.word(3) - 3)
	s.setWord(3, low)
	s.setWord(4, up/2)
	s.push(v)
	if up%2 == 1 {
		s.Failed = false
	}
}

// checkDo holds Step against the model, and answers what it left.
func checkDo(t *testing.T, name string, m impl.Machine) impl.Machine {
	t.Helper()
	out, ok := impl.Step(m)
	want, yes := modelDo(m)
	if ok != yes || !sameMachine(out, want) {
		t.Fatalf("%s: %s\n%v, want %v\n%s\nwant\n%s", name, nextTold(m), ok, yes, toldMachine(out), toldMachine(want))
	}
	if ok && !impl.MachineOk(out) {
		t.Fatalf("%s: %s leaves a machine that is not right:\n%s", name, nextTold(m), toldMachine(out))
	}
	return out
}

// nextTold is the instruction that is next, where there is one.
func nextTold(m impl.Machine) string {
	s := &stepper{Machine: m}
	if m.Roots[0].Tag != impl.TCo || s.word(3) < 3 {
		return "no frame"
	}
	p := s.proto(s.val(s.word(3) - 1))
	if p == nil || s.word(4) >= len(p.Code) {
		return "no place"
	}
	return toldIns(p.Code[s.word(4)])
}

func toldMachine(m impl.Machine) string {
	a := m.Arena
	head := fmt.Sprintf("state %d error %v steps %d failed %v deep %v short %v out %q\nto %d top %d cycle %v scan %d old %d copied %d serial %d roots %v\n",
		m.State, m.Error, m.Steps, m.Failed, m.Deep, m.Short, m.Out, a.To, a.Top, a.Cycle, a.Scan, a.Old, a.Copied, a.Serial, a.Roots)
	for half := range 2 {
		end := map[bool]int{true: a.Top, false: a.Old}[half == a.To]
		nones := 0
		for at := half*a.Semi + 1; at < end; at++ {
			if a.Words[at] == 0 {
				nones++
				continue
			}
			head += fmt.Sprint(strings.Repeat("0 ", min(nones, 3)), a.Words[at], " ")
			nones = 0
		}
		head += "\n"
	}
	return head
}
