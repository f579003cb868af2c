package tests

import (
	"fmt"

	"loop.example/g00101/impl"
)

// The rest of the model of steps: calls, and the library.

// call: n arguments on the top, below them what is called, below it two links.
func (s *stepper) call(n int) {
	links := s.word(2) - n - 3
	s.liftUnless(links >= s.floor, impl.ErrType)
	called := s.val(links + 2)
	if called.Tag == impl.TFun {
		s.callFun(links, 2*s.word(4))
		return
	}
	s.liftUnless(called.Tag == impl.TLib && called.N <= 11, impl.ErrCall)
	s.library(libraryNames()[called.N-1], links)
}

func (s *stepper) callFun(links int, upper int) {
	p := s.proto(s.val(links + 2))
	s.liftUnless(p != nil, impl.ErrCall)
	s.liftUnless(links+3+p.Slots <= 60, impl.ErrStack)
	s.setVal(links, num(s.word(3)))
	s.setVal(links+1, num(upper))
	s.fill(links+3, p)
}

// fill: arguments as many as Params, then slots; it goes on at 0.
func (s *stepper) fill(base int, p *impl.Proto) {
	if s.word(2) > base+p.Params {
		s.shrink(base + p.Params)
	}
	for s.word(2) < base+p.Slots {
		s.push(impl.Val{})
	}
	s.setWord(3, base)
	s.setWord(4, 0)
}

// arg is the argument i, looked at.
func (s *stepper) arg(links int, i int) impl.Val {
	if links+3+i >= s.word(2) {
		return impl.Val{}
	}
	return s.val(links + 3 + i)
}

func (s *stepper) loadArg(links int, i int) impl.Val {
	if links+3+i >= s.word(2) {
		return impl.Val{}
	}
	return s.loadVal(links + 3 + i)
}

func (s *stepper) answer(links int, v impl.Val) {
	s.shrink(links)
	s.push(v)
}

// textOfVal is the text of a value; nothing is said of a box.
func (s *stepper) textOfVal(v impl.Val) string {
	names := map[int]string{impl.TTab: "table:", impl.TFun: "fn:", impl.TCo: "co:"}
	switch v.Tag {
	case impl.TNil:
		return "nil"
	case impl.TBool:
		return fmt.Sprint(v.N == 1)
	case impl.TInt:
		return fmt.Sprint(v.N)
	case impl.TStr:
		return model{Arena: s.Arena}.textOf(s.there(v))
	case impl.TLib:
		return fmt.Sprint("lib:", v.N)
	case impl.TCell:
		return ""
	}
	return fmt.Sprint(names[v.Tag], s.head(v).Serial)
}

func (s *stepper) library(name string, links int) {
	x, y := s.arg(links, 0), s.arg(links, 1)
	switch name {
	case "print":
		s.liftUnless(len(s.Out) < 200, impl.ErrOut)
		s.Out = append(s.Out, s.textOfVal(x))
		s.answer(links, impl.Val{})
	case "tostr":
		s.answer(links, s.newText(s.textOfVal(x)))
	case "type":
		names := []string{"nil", "bool", "int", "text", "table", "fn", "co", "fn", "", ""}
		s.answer(links, s.newText(names[x.Tag]))
	case "next":
		s.liftUnless(x.Tag == impl.TTab, impl.ErrType)
		s.Roots[1] = s.loadArg(links, 0)
		s.Roots[2] = s.loadArg(links, 1)
		var ok bool
		s.Arena, ok = modelNext(s.Arena, 1, 2, 3, 4)
		s.liftUnless(ok, impl.ErrKey)
		s.answer(links, s.Roots[3])
	case "pcall":
		s.liftUnless(x.Tag == impl.TFun, impl.ErrCall)
		s.shrink(links + 2)
		s.push(x)
		s.push(y)
		s.callFun(links, 2*s.word(4)+1)
	case "error":
		panic(lifted{s.loadArg(links, 0)})
	case "failed":
		s.answer(links, yesIf(s.Failed))
	default:
		s.coroutines(name, links, x)
	}
}

func (s *stepper) coroutines(name string, links int, x impl.Val) {
	switch name {
	case "co":
		s.liftUnless(x.Tag == impl.TFun, impl.ErrCall)
		s.Roots[1] = s.loadArg(links, 0)
		at := s.ask(impl.KCo, 126)
		s.Words[at+2], s.Words[at+3] = 3, 3
		copy(s.Words[at+7:], pairs(num(0), num(0), s.Roots[1]))
		s.answer(links, ref(impl.TCo, at))
	case "resume":
		s.liftUnless(x.Tag == impl.TCo, impl.ErrType)
		w := s.Words[s.there(x)+1:]
		fresh := w[0] == 0 && w[1] == 3 && w[2] == 3
		s.liftUnless(fresh || w[0] == 1 && w[2] >= 3, impl.ErrDead)
		x := s.loadArg(links, 0)
		y := s.loadArg(links, 1)
		s.shrink(links)
		s.setWord(1, 4)
		waits := s.Roots[0]
		s.runs(x)
		copy(s.Words[x.N+5:], pairs(waits))
		s.push(y)
		if fresh {
			p := s.proto(s.val(2))
			s.liftUnless(p != nil, impl.ErrCall)
			s.fill(3, p)
		}
	case "yield":
		back, _ := impl.GetVal(s.Words, s.Roots[0].N+5)
		s.liftUnless(back.Tag == impl.TCo, impl.ErrDead)
		x := s.loadArg(links, 0)
		back = s.loadBack()
		s.shrink(links)
		s.setWord(1, 1)
		s.runs(back)
		s.push(x)
	case "state":
		s.liftUnless(x.Tag == impl.TCo, impl.ErrType)
		s.answer(links, num(int(s.Words[s.there(x)+1])))
	}
}
