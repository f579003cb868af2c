package tests

import (
	"fmt"
	"math/rand"
	"strings"
	"testing"

	"loop.example/g00101/impl"
)

// tinker makes machines by chance that no program would come to: code that fits nothing, stacks whose frames are none, coroutines in circles.
type tinker struct {
	*rand.Rand
	module impl.Module
	vals   []impl.Val // all that may stand on a stack
}

// code is instructions by chance, some of them in the order in which a program has them.
func (k *tinker) code(p impl.Proto) []impl.Ins {
	var code []impl.Ins
	for range 1 + k.Intn(8) {
		switch k.Intn(8) {
		case 0:
			code = append(code, ins(impl.OMark, 0), k.pushes(p))
			n := k.Intn(4)
			for range n {
				code = append(code, k.pushes(p))
			}
			code = append(code, ins(impl.OCall, n))
		case 1, 2:
			code = append(code, ins(impl.OMark, 0), ins(impl.OLib, 1+k.Intn(11)))
			n := k.Intn(4)
			for range n {
				code = append(code, k.pushes(p))
			}
			code = append(code, ins(impl.OCall, n))
		case 3:
			code = append(code, k.pushes(p), k.pushes(p), ins([]int{impl.OOp, impl.OOp, impl.OIndex}[k.Intn(3)], 0))
		case 4:
			code = append(code, ins(impl.OTab, 0), ins(impl.ODup, 0), k.pushes(p), k.pushes(p), ins(impl.OPut, 0))
		case 5, 6:
			code = append(code, k.pushes(p), ins(1+k.Intn(27), 0))
		case 7:
			code = append(code, ins(1+k.Intn(27), 0))
		}
	}
	return ended(code...)
}

func (k *tinker) pushes(p impl.Proto) impl.Ins {
	list := []int{impl.ONil, impl.OBool, impl.OInt, impl.OText, impl.OLocal, impl.OLocal, impl.OLocal, impl.OLocal, impl.OBoxed, impl.OUp, impl.OFn, impl.OTab, impl.OLib, impl.ODup}
	return ins(list[k.Intn(len(list))], 0)
}

// fit gives each instruction an A that is let there; those that none fits become ONil.
func (k *tinker) fit(p impl.Proto) {
	for i, one := range p.Code {
		least, most := lettingOf(k.module, p, one.Op)
		if one.Op == impl.OInt {
			least, most = -2, 8
		}
		if one.Op == impl.OCall {
			most = 4
		}
		if one.A == 0 && least <= most {
			p.Code[i].A = least + k.Intn(most-least+1)
		}
		if !isLet(k.module, p, p.Code[i]) {
			p.Code[i] = ins(impl.ONil, 0)
		}
	}
}

func (k *tinker) makeModule() {
	k.module = impl.Module{Texts: []string{"", "a", "longer than one word", "key"}}
	for n := range 4 {
		p := impl.Proto{Slots: k.Intn(6)}
		if n > 0 {
			p.Params = k.Intn(p.Slots + 1)
			for range k.Intn(3) {
				p.Ups = append(p.Ups, impl.Up{Local: k.Intn(2) == 0, Index: k.Intn(3)})
			}
		}
		p.Code = k.code(p)
		k.module.Protos = append(k.module.Protos, p)
	}
	for _, p := range k.module.Protos {
		k.fit(p)
	}
}

func (k *tinker) val() impl.Val {
	switch k.Intn(8) {
	case 0:
		return impl.Val{}
	case 1:
		return yesIf(k.Intn(2) == 0)
	case 2:
		return num(k.Intn(9) - 2)
	case 3:
		return impl.Val{Tag: impl.TLib, N: 1 + k.Intn(20)}
	}
	return k.vals[k.Intn(len(k.vals))]
}

// of is one of the objects of a tag.
func (k *tinker) of(tag int) impl.Val {
	for {
		if v := k.vals[k.Intn(len(k.vals))]; v.Tag == tag {
			return v
		}
	}
}

// stack is frames, mostly as they must be; it tells the base of the one that runs, too.
func (k *tinker) stack(a impl.Arena) ([]impl.Val, int) {
	stack := []impl.Val{num(0), num(0)}
	base := 0
	for frame := range 1 + k.Intn(4) {
		if frame > 0 {
			stack = append(stack, num(base), num(k.Intn(20)))
		}
		fun := k.of(impl.TFun)
		stack = append(stack, fun)
		base = len(stack)
		slots := 3
		if n := int(a.Words[fun.N+1]); n < len(k.module.Protos) {
			slots = k.module.Protos[n].Slots
		}
		for range slots + k.Intn(5) {
			stack = append(stack, k.val())
		}
		if k.Intn(12) == 0 {
			stack[k.Intn(len(stack))] = k.val()
		}
	}
	for k.Intn(20) == 0 && len(stack) < 60 {
		stack = append(stack, k.val())
	}
	if len(stack) > 60 {
		stack = stack[:60]
	}
	if k.Intn(20) == 0 {
		for len(stack) < 60 {
			stack = append(stack, k.val())
		}
	}
	return stack, min(base, len(stack))
}

// lay lays all objects into an arena, the coroutines last; their stacks are filled when all are known.
func (k *tinker) lay(a *impl.Arena) {
	l := &layer{a.Words, a.To*a.Semi + 1}
	serial := 0
	next := func() int { serial++; return serial }
	keep := func(tag int, at int) impl.Val {
		k.vals = append(k.vals, ref(tag, at))
		return ref(tag, at)
	}
	keep(impl.TStr, l.text("a"))
	keep(impl.TStr, l.text("key"))
	keep(impl.TStr, l.text(string(make([]byte, 100))))
	keep(impl.TCell, l.cell(num(5)))
	keep(impl.TCell, l.cell(k.val()))
	for range 4 {
		var cells []impl.Val
		for range k.Intn(4) {
			cells = append(cells, k.of(impl.TCell))
		}
		keep(impl.TFun, l.fun(next(), uint64(k.Intn(9)/2), cells...))
	}
	block := l.block(4, entry{1, num(1), k.val()}, entry{2, num(2), k.of(impl.TStr)})
	for _, at := range []int{block + 7, block + 11} { // a box is no value
		if l.words[at] == impl.TCell {
			copy(l.words[at:], pairs(num(6)))
		}
	}
	keep(impl.TTab, l.table(next(), 2, ref(impl.TBlk, block)))
	keep(impl.TTab, l.table(next(), 0, impl.Val{}))
	keep(impl.TCell, l.cell(k.val()))
	var cos []impl.Val
	for range 1 + k.Intn(4) {
		cos = append(cos, keep(impl.TCo, l.co(next(), [4]uint64{}, impl.Val{})))
	}
	a.Top, a.Serial = l.at, serial+1
	a.Roots[0] = cos[k.Intn(len(cos))]
	for _, co := range cos {
		k.fillCo(*a, co.N)
	}
	if k.Intn(20) == 0 {
		a.Roots[0] = k.val()
	}
}

func (k *tinker) fillCo(a impl.Arena, at int) {
	stack, base := k.stack(a)
	status, place := uint64(k.Intn(5)), uint64(k.Intn(12))
	if base > 0 && stack[base-1].Tag == impl.TFun {
		if n := int(a.Words[stack[base-1].N+1]); n < len(k.module.Protos) {
			place = uint64(k.Intn(len(k.module.Protos[n].Code)))
		}
	}
	switch odd := k.Intn(40); {
	case odd == 0:
		base = k.Intn(len(stack) + 1)
	case odd == 1:
		place = uint64(k.Intn(4096))
	case odd == 2:
		stack, base = nil, 0
	case odd < 15 && a.Roots[0].N != at: // fresh, as it must be
		status, stack, base, place = 0, []impl.Val{num(0), num(0), k.of(impl.TFun)}, 3, 0
	case odd < 25:
		status = 1
	}
	copy(a.Words[at+1:], []uint64{status, uint64(len(stack)), uint64(base), place})
	copy(a.Words[at+7:], pairs(stack...))
	if k.Intn(2) == 0 {
		copy(a.Words[at+5:], pairs(k.of(impl.TCo)))
	}
}

// looseMachine is one that is right, but for what chapter 12 asks of stacks.
func looseMachine(r *rand.Rand) impl.Machine {
	k := &tinker{Rand: r}
	k.makeModule()
	semi := 800 + r.Intn(800)
	a := newArena(semi, r.Intn(2))
	a.Roots = make([]impl.Val, 6)
	k.lay(&a)
	m := impl.Machine{Module: k.module, Arena: a, Failed: r.Intn(2) == 0, Steps: r.Intn(9)}
	if r.Intn(8) == 0 {
		m.Out = make([]string, 199+r.Intn(2))
	}
	return m
}

// Any words in which an arena is right: an answer, as the model has it, and no panic.
func TestLooseMachinesAgainstTheModel(t *testing.T) {
	t.Parallel()
	r := rand.New(rand.NewSource(122))
	seen := map[string]int{}
	for range 2500 {
		m := looseMachine(r)
		if !impl.MachineOk(m) {
			t.Fatalf("what was made is not right: %s", toldMachine(m))
		}
		for n := 0; n < 25 && m.State == 0; n++ {
			m = movedBy(r, m)
			word, _, _ := strings.Cut(nextTold(m), " ")
			seen[word]++
			m = checkDo(t, "a loose machine", m)
		}
		seen[fmt.Sprint("state ", m.State, m.Error)]++
	}
	for _, word := range append(opWords[1:], "no") {
		if seen[word] < 15 {
			t.Error(word, "is done", seen[word], "times")
		}
	}
	for _, end := range []string{"1 {0 0}", "2 {2 1}", "2 {2 3}", "2 {2 4}", "2 {2 6}", "2 {2 7}"} {
		if seen["state "+end] < 2 {
			t.Error("the end", end, "comes", seen["state "+end], "times")
		}
	}
}
