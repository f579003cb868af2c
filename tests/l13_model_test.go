package tests

import (
	"fmt"
	"strings"

	"loop.example/g00101/impl"
)

// thinker is the model of the meaning: it goes down the tree each time anew, finds locals by their names, and notes each unit.
type thinker struct {
	nodes  []impl.Knot
	fuel   int
	out    []string
	marks  []int // of each unit how many texts were printed ahead of it
	tables map[int]*book
	fns    map[int]notion
	serial int
	failed bool
}

// notion is a function: its node, and what is seen where it was made.
type notion struct {
	node int
	seen *sight
}

// sight is a local that is seen, and behind it those ahead of it.
type sight struct {
	name  string
	place *thing
	ahead *sight
}

// thrown is an error on its way, exhausted the unit that lacks.
type thrown struct{ v thing }
type exhausted struct{}

// back is what a statement returns.
type back struct{ v thing }

// modelMean also answers the thinker, whose marks say what would be told with fewer units.
func modelMean(tree impl.Tree, fuel int) (impl.Told, int, *thinker) {
	if _, code, _ := modelCompile(tree); code != impl.CodDone || fuel < 0 || fuel > 4000 {
		return impl.Told{}, impl.CodBad, nil
	}
	m := newCodeModel(tree)
	for n, knot := range tree.Nodes {
		_, isLocal := m.named[n]
		if knot.Kind == impl.NName && !isLocal && strings.Contains(" co resume yield ", " "+knot.Text+" ") {
			return impl.Told{}, impl.CodName, nil
		}
	}
	k := &thinker{nodes: tree.Nodes, fuel: fuel, tables: map[int]*book{}, fns: map[int]notion{}, serial: 3}
	told := k.whole(tree.Top)
	told.Out = k.out
	return told, impl.CodDone, k
}

func (k *thinker) whole(top int) (told impl.Told) {
	defer func() {
		switch x := recover().(type) {
		case nil:
		case exhausted:
			told = impl.Told{State: impl.MachFuel}
		case thrown:
			told = impl.Told{State: impl.MachError, Error: impl.Val{Tag: x.v.tag, N: x.v.n}}
			if x.v.tag == impl.TTab || x.v.tag == impl.TFun {
				told.Error.N = 0
			}
		default:
			panic(x)
		}
	}()
	k.block(top, nil)
	return impl.Told{State: impl.MachDone}
}

func (k *thinker) unit() {
	k.marks = append(k.marks, len(k.out))
	if len(k.marks) > k.fuel {
		panic(exhausted{})
	}
}

func (k *thinker) throwUnless(right bool, code int) {
	if !right {
		panic(thrown{numThing(code)})
	}
}

func thingIf(so bool) thing {
	if so {
		return thing{tag: impl.TBool, n: 1}
	}
	return thing{tag: impl.TBool}
}

func textThing(s string) thing { return thing{tag: impl.TStr, text: s} }

func (x thing) isSo() bool { return x.tag > impl.TBool || x.n > 0 }

func (s *sight) find(name string) *thing {
	for ; s != nil; s = s.ahead {
		if s.name == name {
			return s.place
		}
	}
	return nil
}

func (s *sight) with(name string, v thing) *sight { return &sight{name, &v, s} }

func (k *thinker) block(n int, s *sight) *back {
	for _, kid := range k.nodes[n].Kids {
		k.unit()
		knot := k.nodes[kid]
		if knot.Kind == impl.NLocal {
			s = s.with(knot.Text, k.value(knot.Kids[0], s))
			continue
		}
		if b := k.statement(knot, s); b != nil {
			return b
		}
	}
	return nil
}

func (k *thinker) statement(knot impl.Knot, s *sight) *back {
	first := func() thing { return k.value(knot.Kids[0], s) }
	switch knot.Kind {
	case impl.NSet:
		v := first()
		*s.find(knot.Text) = v
	case impl.NPut:
		list := k.all(knot.Kids, s)
		k.put(list[0], list[1], list[2])
	case impl.NIf:
		if first().isSo() {
			return k.block(knot.Kids[1], s)
		}
		if len(knot.Kids) > 2 {
			return k.block(knot.Kids[2], s)
		}
	case impl.NWhile:
		for first().isSo() {
			if b := k.block(knot.Kids[1], s); b != nil {
				return b
			}
			k.unit()
		}
	case impl.NReturn:
		return &back{first()}
	case impl.NDo:
		first()
	}
	return nil
}

func (k *thinker) all(kids []int, s *sight) []thing {
	var list []thing
	for _, kid := range kids {
		list = append(list, k.value(kid, s))
	}
	return list
}

func (k *thinker) born() int {
	k.serial++
	return k.serial - 1
}

func (k *thinker) value(n int, s *sight) thing {
	knot := k.nodes[n]
	switch knot.Kind {
	case impl.NBool:
		return thingIf(knot.I == 1)
	case impl.NInt:
		return numThing(knot.I)
	case impl.NText:
		return textThing(knot.Text)
	case impl.NName:
		if place := s.find(knot.Text); place != nil {
			return *place
		}
		return thing{tag: impl.TLib, n: impl.LibOf(knot.Text)}
	case impl.NFn:
		v := thing{tag: impl.TFun, n: k.born()}
		k.fns[v.n] = notion{n, s}
		return v
	case impl.NTable:
		return k.newTable(knot, s)
	case impl.NAnd, impl.NOr:
		v := k.value(knot.Kids[0], s)
		if v.isSo() == (knot.Kind == impl.NOr) {
			return v
		}
		return k.value(knot.Kids[1], s)
	case impl.NIndex:
		list := k.all(knot.Kids, s)
		k.throwUnless(list[0].tag == impl.TTab, impl.ErrType)
		return k.tables[list[0].n].get(list[1])
	case impl.NCall:
		list := k.all(knot.Kids, s)
		return k.call(list[0], list[1:])
	case impl.NOp:
		list := k.all(knot.Kids, s)
		return k.reckon(knot.I, list[0], list[1])
	case impl.NTurn:
		return k.turned(knot.I, k.value(knot.Kids[0], s))
	}
	return thing{}
}

func (k *thinker) newTable(knot impl.Knot, s *sight) thing {
	v := thing{tag: impl.TTab, n: k.born()}
	k.tables[v.n] = &book{}
	items := 0
	for _, n := range knot.Kids {
		list := k.all(k.nodes[n].Kids, s)
		if k.nodes[n].Kind == impl.NItem {
			items++
			list = []thing{numThing(items), list[0]}
		}
		k.put(v, list[0], list[1])
	}
	return v
}

func (k *thinker) put(table thing, key thing, v thing) {
	k.throwUnless(table.tag == impl.TTab, impl.ErrType)
	k.throwUnless(key != thing{}, impl.ErrKey)
	k.throwUnless(k.tables[table.n].set(key, v, false) == impl.Done, impl.ErrFull)
}

func (k *thinker) reckon(op int, a thing, b thing) thing {
	if op == impl.OpEq || op == impl.OpNe {
		return thingIf((a == b) == (op == impl.OpEq))
	}
	texts := a.tag == impl.TStr && b.tag == impl.TStr
	numbers := a.tag == impl.TInt && b.tag == impl.TInt
	switch {
	case op == impl.OpJoin && texts:
		k.throwUnless(len(a.text)+len(b.text) <= 160, impl.ErrLong)
		return textThing(a.text + b.text)
	case op == impl.OpLt && (texts || numbers):
		return thingIf(a.n < b.n || a.text < b.text)
	case op == impl.OpLe && (texts || numbers):
		return thingIf(a.n < b.n || a.text < b.text || a == b)
	}
	k.throwUnless(numbers && op != impl.OpJoin, impl.ErrType)
	k.throwUnless(b.n != 0 || op != impl.OpDiv && op != impl.OpMod, impl.ErrZero)
	return numThing(map[int]func() int{
		impl.OpAdd: func() int { return a.n + b.n },
		impl.OpSub: func() int { return a.n - b.n },
		impl.OpMul: func() int { return a.n * b.n },
		impl.OpDiv: func() int { return a.n / b.n },
		impl.OpMod: func() int { return a.n - a.n/b.n*b.n },
	}[op]())
}

func (k *thinker) turned(turn int, v thing) thing {
	switch {
	case turn == impl.TurnNot:
		return thingIf(!v.isSo())
	case turn == impl.TurnNeg && v.tag == impl.TInt:
		return numThing(0 - v.n)
	case turn == impl.TurnLen && v.tag == impl.TStr:
		return numThing(len(v.text))
	case turn == impl.TurnLen && v.tag == impl.TTab:
		return numThing(k.tables[v.n].border())
	}
	panic(thrown{numThing(impl.ErrType)})
}

func (x thing) said() string {
	switch x.tag {
	case impl.TNil:
		return "nil"
	case impl.TBool:
		return fmt.Sprint(x.n == 1)
	case impl.TInt:
		return fmt.Sprint(x.n)
	case impl.TStr:
		return x.text
	}
	return fmt.Sprint(map[int]string{impl.TTab: "table:", impl.TFun: "fn:", impl.TLib: "lib:"}[x.tag], x.n)
}

func (k *thinker) call(f thing, args []thing) thing {
	k.unit()
	if f.tag == impl.TLib {
		args = append(args, thing{}, thing{})
		return k.library(libraryNames()[f.n-1], args[0], args[1])
	}
	k.throwUnless(f.tag == impl.TFun, impl.ErrCall)
	fn := k.fns[f.n]
	kids := k.nodes[fn.node].Kids
	s := fn.seen
	for i, kid := range kids[:len(kids)-1] {
		var v thing
		if i < len(args) {
			v = args[i]
		}
		s = s.with(k.nodes[kid].Text, v)
	}
	if b := k.block(kids[len(kids)-1], s); b != nil {
		return b.v
	}
	return thing{}
}

func (k *thinker) library(name string, x thing, y thing) thing {
	switch name {
	case "print":
		k.throwUnless(len(k.out) < 200, impl.ErrOut)
		k.out = append(k.out, x.said())
	case "tostr":
		return textThing(x.said())
	case "type":
		return textThing([]string{"nil", "bool", "int", "text", "table", "fn", "co", "fn"}[x.tag])
	case "next":
		k.throwUnless(x.tag == impl.TTab, impl.ErrType)
		return k.next(k.tables[x.n], y)
	case "pcall":
		k.throwUnless(x.tag == impl.TFun, impl.ErrCall)
		return k.attempt(x, y)
	case "error":
		panic(thrown{x})
	case "failed":
		return thingIf(k.failed)
	case "state":
		panic(thrown{numThing(impl.ErrType)})
	}
	return thing{}
}

func (k *thinker) next(b *book, key thing) thing {
	at := b.find(key)
	k.throwUnless(at >= 0 || key == thing{}, impl.ErrKey)
	for at++; at < len(b.keys); at++ {
		if b.values[at] != (thing{}) {
			return b.keys[at]
		}
	}
	return thing{}
}

func (k *thinker) attempt(f thing, y thing) (v thing) {
	defer func() {
		switch x := recover().(type) {
		case nil:
		case thrown:
			v, k.failed = x.v, true
		default:
			panic(x)
		}
	}()
	v = k.call(f, []thing{y})
	k.failed = false
	return v
}
