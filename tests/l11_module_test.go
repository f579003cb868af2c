package tests

import (
	"fmt"
	"math"
	"math/rand"
	"slices"
	"strings"
	"testing"

	"loop.example/g00101/impl"
)

func ins(op int, a int) impl.Ins { return impl.Ins{Op: op, A: a} }

// ended is instructions with an OReturn behind them.
func ended(code ...impl.Ins) []impl.Ins { return append(code, ins(impl.OReturn, 0)) }

// countsOf: how many of each thing an A may name there are, for a Proto of a module.
func countsOf(m impl.Module, p impl.Proto) map[string]int {
	return map[string]int{"texts": len(m.Texts), "slots": p.Slots, "ups": len(p.Ups), "protos": len(m.Protos), "places": len(p.Code)}
}

// namedBy: what the A of an instruction names, by what it is called in these tests.
func namedBy() map[string]string {
	return map[string]string{
		"text": "texts", "local": "slots", "boxed": "slots", "set": "slots", "setbox": "slots", "box": "slots",
		"up": "ups", "setup": "ups", "fn": "protos", "jump": "places", "jumpnot": "places", "and": "places", "or": "places",
	}
}

// lettingOf: the least and the greatest A that an instruction may have, by the document's row; there is none when the least is the greater one.
func lettingOf(m impl.Module, p impl.Proto, op int) (int, int) {
	word := opWords[op]
	if thing, names := namedBy()[word]; names {
		return 0, countsOf(m, p)[thing] - 1
	}
	switch word {
	case "bool":
		return 0, 1
	case "int":
		return math.MinInt, math.MaxInt
	case "op":
		return 1, 10
	case "turn":
		return 1, 3
	case "call":
		return 0, 40
	case "lib":
		return 1, 11
	}
	return 0, 0
}

// isLet: the instruction may stand in the Proto.
func isLet(m impl.Module, p impl.Proto, i impl.Ins) bool {
	if i.Op < 1 || i.Op > 27 {
		return false
	}
	from, to := lettingOf(m, p, i.Op)
	if i.A < from || i.A > to {
		return false
	}
	if i.Op != impl.OFn {
		return true
	}
	return !slices.ContainsFunc(m.Protos[i.A].Ups, func(up impl.Up) bool {
		return up.Index < 0 || up.Local && up.Index >= p.Slots || !up.Local && up.Index >= len(p.Ups)
	})
}

// modelModuleOk goes by the document's words, thing by thing.
func modelModuleOk(m impl.Module) bool {
	if len(m.Protos) == 0 || len(m.Protos) > 100 || len(m.Texts) > 255 {
		return false
	}
	if slices.ContainsFunc(m.Texts, func(s string) bool { return len(s) > 160 }) {
		return false
	}
	for _, p := range m.Protos {
		if p.Params < 0 || p.Slots < p.Params || p.Slots > 20 || len(p.Ups) > 12 || len(p.Code) == 0 || len(p.Code) > 4000 {
			return false
		}
		if p.Code[len(p.Code)-1].Op != impl.OReturn {
			return false
		}
	}
	if m.Protos[0].Params != 0 || len(m.Protos[0].Ups) != 0 {
		return false
	}
	for _, p := range m.Protos {
		if slices.ContainsFunc(p.Code, func(i impl.Ins) bool { return !isLet(m, p, i) }) {
			return false
		}
	}
	return true
}

// checkModule holds ModuleOk against what is wanted, and against the model.
func checkModule(t *testing.T, name string, m impl.Module, want bool) {
	t.Helper()
	if impl.ModuleOk(m) != want {
		t.Errorf("%s: ModuleOk is %v\n%.1000s", name, !want, strings.Join(toldModule(m), "\n"))
	}
	if modelModuleOk(m) != want {
		t.Errorf("%s: the model says %v", name, !want)
	}
}

// plainModule is a small one that is right, written out by hand: Proto 1 makes Proto 2, of a slot and of an Up.
func plainModule() impl.Module {
	return impl.Module{
		Protos: []impl.Proto{
			{Slots: 2, Code: ended(ins(impl.OBox, 1), ins(impl.OFn, 1))},
			{Params: 1, Slots: 3, Ups: []impl.Up{{Local: true, Index: 1}, {Local: true}}, Code: ended(ins(impl.OBox, 2), ins(impl.OFn, 2), ins(impl.OJump, 0))},
			{Ups: []impl.Up{{Local: true, Index: 2}, {Index: 1}}, Code: ended(ins(impl.OUp, 1), ins(impl.OText, 1))},
		},
		Texts: []string{"one", "two"},
	}
}

// moduleTurn is a change of a module, by what it is.
type moduleTurn struct {
	name string
	do   func(m *impl.Module)
}

// checkModuleTurns makes each change in a module of its own.
func checkModuleTurns(t *testing.T, of func() impl.Module, right bool, turns ...moduleTurn) {
	t.Helper()
	for _, turn := range turns {
		m := cloneModule(of())
		turn.do(&m)
		checkModule(t, turn.name, m, right)
	}
}

func TestPlainModules(t *testing.T) {
	checkModule(t, "the plain one", plainModule(), true)
	checkModule(t, "the least", impl.Module{Protos: []impl.Proto{{Code: ended()}}}, true)
	checkModule(t, "nothing", impl.Module{}, false)
	checkModule(t, "texts alone", impl.Module{Texts: []string{"a"}}, false)
	checkModule(t, "a Proto of nothing", impl.Module{Protos: []impl.Proto{{}}}, false)
}

func repeated[T any](n int, one T) []T {
	return slices.Repeat([]T{one}, n)
}

func TestHowManyProtosAndTexts(t *testing.T) {
	protos := func(n int) moduleTurn {
		return moduleTurn{fmt.Sprint(n, " Protos"), func(m *impl.Module) {
			m.Protos = append(m.Protos, repeated(n, impl.Proto{Code: ended()})...)[:n]
		}}
	}
	texts := func(n int, s string) moduleTurn {
		return moduleTurn{fmt.Sprint(n, " Texts"), func(m *impl.Module) { m.Texts = append(m.Texts, repeated(n, s)...)[:n] }}
	}
	text := func(i int, n int) moduleTurn {
		return moduleTurn{fmt.Sprint("a Text of ", n), func(m *impl.Module) { m.Texts[i] = strings.Repeat("\xff", n) }}
	}
	checkModuleTurns(t, plainModule, true, protos(3), protos(4), protos(99), protos(100))
	checkModuleTurns(t, plainModule, false, protos(0), protos(101), protos(102), protos(1000))
	checkModuleTurns(t, plainModule, true, texts(2, ""), texts(254, "same"), texts(255, ""), texts(255, strings.Repeat("x", 160)))
	// The last Text that an OText names is 1.
	checkModuleTurns(t, plainModule, false, texts(0, ""), texts(1, ""), texts(256, ""), texts(2000, "x"))
	checkModuleTurns(t, plainModule, true, text(0, 0), text(0, 159), text(0, 160), text(1, 160))
	checkModuleTurns(t, plainModule, false, text(0, 161), text(1, 161), text(1, 5000))
	// A Text that is wrong counts where no instruction names it, and behind 100 right ones.
	checkModuleTurns(t, plainModule, false, moduleTurn{"a long Text that is not named", func(m *impl.Module) {
		m.Texts = append(m.Texts, append(repeated(100, "x"), strings.Repeat("y", 161))...)
	}})
}

// In each Proto but the first one, whose Params are no others than 0.
func TestParamsAndSlots(t *testing.T) {
	for i := range 3 {
		set := func(params int, slots int) moduleTurn {
			return moduleTurn{fmt.Sprint("Proto ", i, ": Params ", params, " of ", slots), func(m *impl.Module) {
				m.Protos[i].Params, m.Protos[i].Slots = params, slots
			}}
		}
		// Three slots are named at most.
		checkModuleTurns(t, plainModule, true, set(0, 3), set(0, 4), set(0, 19), set(0, 20))
		checkModuleTurns(t, plainModule, i > 0, set(1, 3), set(3, 3), set(3, 20), set(20, 20))
		checkModuleTurns(t, plainModule, false, set(-1, 3), set(4, 3), set(0, 21), set(20, 21), set(21, 21), set(21, 20), set(0, math.MaxInt), set(math.MinInt, 3), set(math.MaxInt, math.MaxInt))
		checkModuleTurns(t, plainModule, false, set(0, -1), set(-1, -1), set(-2, -1), set(math.MinInt, math.MinInt))
	}
	for slots := range 3 {
		bare := func() impl.Module {
			return impl.Module{Protos: []impl.Proto{{Code: ended()}, {Params: slots, Slots: slots, Code: ended()}}}
		}
		checkModule(t, fmt.Sprint(slots, " slots"), bare(), true)
		checkModuleTurns(t, bare, false, moduleTurn{"Params one more", func(m *impl.Module) { m.Protos[1].Params++ }})
		checkModuleTurns(t, bare, slots == 0, moduleTurn{"Params of the Top", func(m *impl.Module) { m.Protos[0].Params, m.Protos[0].Slots = slots, slots }})
	}
}

func TestHowManyUpsOfAProto(t *testing.T) {
	ups := func(i int, n int) moduleTurn {
		return moduleTurn{fmt.Sprint("Proto ", i, ": ", n, " Ups"), func(m *impl.Module) {
			m.Protos[i].Ups = append(m.Protos[i].Ups, repeated(n, impl.Up{Local: true})...)[:n]
		}}
	}
	checkModuleTurns(t, plainModule, true, ups(0, 0), ups(1, 2), ups(1, 3), ups(1, 11), ups(1, 12), ups(2, 2), ups(2, 12))
	checkModuleTurns(t, plainModule, false, ups(0, 1), ups(0, 12), ups(1, 0), ups(1, 1), ups(1, 13), ups(2, 1), ups(2, 13), ups(2, 1000))
	// One that nobody makes is counted, too.
	spare := func(n int) impl.Module {
		m := plainModule()
		m.Protos = append(m.Protos, impl.Proto{Ups: make([]impl.Up, n), Code: ended()})
		return m
	}
	checkModule(t, "12 Ups of what nobody makes", spare(12), true)
	checkModule(t, "13 Ups of what nobody makes", spare(13), false)
}

func TestHowMuchCodeOfAProto(t *testing.T) {
	for i := range 3 {
		code := func(n int) moduleTurn {
			return moduleTurn{fmt.Sprint("Proto ", i, ": ", n, " instructions"), func(m *impl.Module) {
				m.Protos[i].Code = ended(repeated(n-1, ins(impl.OTab, 0))...)
			}}
		}
		checkModuleTurns(t, plainModule, true, code(1), code(2), code(3999), code(4000))
		checkModuleTurns(t, plainModule, false, code(4001), code(4002), code(9000))
		none := moduleTurn{"no instruction", func(m *impl.Module) { m.Protos[i].Code = nil }}
		checkModuleTurns(t, plainModule, false, none)
		for op := -1; op <= 29; op++ {
			last := moduleTurn{fmt.Sprint("Proto ", i, " ends with ", op), func(m *impl.Module) {
				m.Protos[i].Code = append(ended(), ins(op, 0))
			}}
			checkModuleTurns(t, plainModule, op == impl.OReturn, last)
		}
		checkModuleTurns(t, plainModule, false,
			moduleTurn{"an OReturn of 1", func(m *impl.Module) { m.Protos[i].Code[len(m.Protos[i].Code)-1].A = 1 }},
			moduleTurn{"an OReturn of -1", func(m *impl.Module) { m.Protos[i].Code[len(m.Protos[i].Code)-1].A = -1 }},
			moduleTurn{"one less", func(m *impl.Module) { m.Protos[i].Code = m.Protos[i].Code[:len(m.Protos[i].Code)-1] }})
	}
}

// wide is a module whose Proto 1 has this instruction, ahead of others or in the middle; it has the most of all things that one may name, but not as many of one as of another.
func wide(i impl.Ins, at int) impl.Module {
	code := ended(repeated(9, ins(impl.ONil, 0))...)
	code[at] = i
	ups := repeated(7, impl.Up{Local: true})
	m := impl.Module{
		Protos: []impl.Proto{{Slots: 1, Code: ended(ins(impl.OFn, 1))}, {Params: 2, Slots: 15, Ups: ups, Code: code}, {Code: ended()}, {Code: ended()}},
		Texts:  repeated(5, "text"),
	}
	return m
}

// edgesByHand: of each instruction the least and the greatest A in a wide module.
func edgesByHand() map[int][2]int {
	return map[int][2]int{
		impl.ONil: {0, 0}, impl.OBool: {0, 1}, impl.OInt: {math.MinInt, math.MaxInt}, impl.OText: {0, 4},
		impl.OLocal: {0, 14}, impl.OBoxed: {0, 14}, impl.OUp: {0, 6}, impl.OSet: {0, 14}, impl.OSetBox: {0, 14}, impl.OSetUp: {0, 6},
		impl.OBox: {0, 14}, impl.OFn: {0, 3}, impl.OTab: {0, 0}, impl.OIndex: {0, 0}, impl.OPut: {0, 0}, impl.OOp: {1, 10}, impl.OTurn: {1, 3},
		impl.OJump: {0, 9}, impl.OJumpNot: {0, 9}, impl.OAnd: {0, 9}, impl.OOr: {0, 9}, impl.OMark: {0, 0}, impl.OCall: {0, 40},
		impl.OReturn: {0, 0}, impl.OPop: {0, 0}, impl.ODup: {0, 0}, impl.OLib: {1, 11},
	}
}

// Each of the 27 instructions with A at each end of what is let and one beyond, at each place but the last one.
func TestEachInstructionAtItsEdges(t *testing.T) {
	edges := edgesByHand()
	if len(edges) != 27 {
		t.Error("instructions", len(edges))
	}
	for op, edge := range edges {
		for at := range 9 {
			check := func(a int, want bool) {
				t.Helper()
				checkModule(t, fmt.Sprintf("%s at %d", toldIns(ins(op, a)), at), wide(ins(op, a), at), want)
			}
			for a := max(edge[0], -2); a <= min(edge[1], 45); a++ {
				check(a, true)
			}
			check(edge[0], true)
			check(edge[1], true)
			if op != impl.OInt {
				check(edge[0]-1, false)
				check(edge[1]+1, false)
				check(math.MinInt, false)
				check(math.MaxInt, false)
			}
		}
	}
	for _, op := range []int{0, -1, 28, 29, -27, 100, 1 << 32, math.MinInt, math.MaxInt} {
		for a := range 3 {
			checkModule(t, "no instruction", wide(ins(op, a), 4), false)
		}
	}
}

// An instruction of the Top and of the last Proto counts as much; each has things of its own.
func TestInstructionsOfEachProto(t *testing.T) {
	of := func() impl.Module {
		m := wide(ins(impl.ONil, 0), 0)
		m.Protos[2].Ups = []impl.Up{{Index: -9}}
		m.Protos[3].Slots = 2
		return m
	}
	slots, ups, places := [4]int{1, 15, 0, 2}, [4]int{0, 7, 1, 0}, [4]int{3, 11, 2, 2}
	for proto := range 4 {
		check := func(count int, ops ...int) {
			t.Helper()
			for _, op := range ops {
				for a := -1; a <= count; a++ {
					checkModuleTurns(t, of, a >= 0 && a < count, moduleTurn{fmt.Sprint("Proto ", proto, ": ", toldIns(ins(op, a))), func(m *impl.Module) {
						m.Protos[proto].Code = append([]impl.Ins{ins(op, a)}, m.Protos[proto].Code...)
					}})
				}
			}
		}
		check(slots[proto], impl.OLocal, impl.OBoxed, impl.OSet, impl.OSetBox, impl.OBox)
		check(ups[proto], impl.OUp, impl.OSetUp)
		check(places[proto], impl.OJump, impl.OJumpNot, impl.OAnd, impl.OOr)
	}
}

// Whoever makes a function must have what its Ups name; what nobody makes may name anything.
func TestUpsOfWhatIsMade(t *testing.T) {
	making := func(up impl.Up, slots int, ups int) impl.Module {
		return impl.Module{Protos: []impl.Proto{
			{Code: ended()},
			{Ups: []impl.Up{up}, Code: ended()},
			{Slots: slots, Ups: make([]impl.Up, ups), Code: ended(ins(impl.ONil, 0), ins(impl.OFn, 1))},
		}}
	}
	for _, local := range []bool{true, false} {
		for slots := range 21 {
			for ups := range 13 {
				there := ups
				if local {
					there = slots
				}
				for _, index := range []int{math.MinInt, -1, 0, 1, there - 1, there, there + 1, 12, 20, math.MaxInt} {
					want := index >= 0 && index < there
					checkModule(t, fmt.Sprint("an Up ", local, index, " of ", slots, " slots and ", ups, " Ups"), making(impl.Up{Local: local, Index: index}, slots, ups), want)
				}
			}
		}
	}
	for _, index := range []int{math.MinInt, -1, 0, 20, math.MaxInt} {
		unmade := making(impl.Up{Local: true, Index: index}, 1, 1)
		unmade.Protos[2].Code = ended()
		checkModule(t, "what nobody makes", unmade, true)
	}
}

// The Ups count for each that makes the function, each of them does, and the function may be made within itself.
func TestUpsCountForEachMaker(t *testing.T) {
	of := func() impl.Module {
		return impl.Module{Protos: []impl.Proto{
			{Slots: 3, Code: ended(ins(impl.OFn, 1), ins(impl.OFn, 1), ins(impl.OFn, 0))},
			{Slots: 3, Ups: []impl.Up{{Local: true, Index: 2}, {Local: true, Index: 0}, {Local: true, Index: 1}}, Code: ended(ins(impl.OFn, 1), ins(impl.OFn, 2), ins(impl.OFn, 0))},
			{Slots: 3, Ups: []impl.Up{{Index: 2}, {Index: 0}, {Local: true, Index: 2}}, Code: ended(ins(impl.OFn, 1), ins(impl.OFn, 2))},
		}}
	}
	checkModule(t, "all make each other", of(), true)
	for i := range 3 {
		checkModuleTurns(t, of, false, moduleTurn{fmt.Sprint("Proto ", i, " has a slot less"), func(m *impl.Module) { m.Protos[i].Slots-- }})
	}
	for k := range 3 {
		checkModuleTurns(t, of, false,
			moduleTurn{fmt.Sprint("Local ", k), func(m *impl.Module) { m.Protos[1].Ups[k].Local = false }},
			moduleTurn{fmt.Sprint("Index ", k), func(m *impl.Module) { m.Protos[1].Ups[k].Index = 3 }},
			moduleTurn{fmt.Sprint("below 0 ", k), func(m *impl.Module) { m.Protos[2].Ups[k].Index = -1 }})
	}
	// The Top has no Ups to give.
	checkModuleTurns(t, of, false, moduleTurn{"the Top makes Proto 2", func(m *impl.Module) { m.Protos[0].Code[0].A = 2 }})
}

// What Compile answers is right, by chance and at its limits.
func TestCompiledModulesAreRight(t *testing.T) {
	r := rand.New(rand.NewSource(110))
	done := 0
	for range 3000 {
		m, code, _ := impl.Compile(someProgram(r, 1+r.Intn(150), 1+r.Intn(7)).tree())
		if code == impl.CodDone {
			done++
			checkModule(t, "by chance", m, true)
		} else {
			checkModule(t, "refused", m, false)
		}
	}
	if done < 1500 {
		t.Error("only", done, "programs")
	}
	for name, top := range map[string]twig{
		"nothing":   tBlock(),
		"locals":    tBlock(locals(20)...),
		"params":    tBlock(tReturn(fnOf(namesUpTo(20)))),
		"Protos":    tBlock(tReturn(tTable(emptyFns(99)...))),
		"texts":     tBlock(tReturn(tTable(textItems(0, 255)...))),
		"Ups":       tBlock(append(declared(12), tReturn(fnOf("", naming(namesUpTo(12))...)))...),
		"code":      tBlock(long(3998)),
		"arguments": tBlock(tDo(tCall(tName("state"), times(40, func(i int) twig { return tText(strings.Repeat("t", 160)) })...))),
	} {
		checkModule(t, name, moduleOf(t, top.tree()), true)
	}
	for _, text := range append(modulePrograms(), programs()...) {
		if tree, code, _ := impl.Parse(text); code == impl.ParDone {
			if m, code, _ := impl.Compile(tree); code == impl.CodDone {
				checkModule(t, text, m, true)
			}
		}
	}
}

// turnModule changes one thing of a module.
func turnModule(r *rand.Rand, m *impl.Module) {
	p := &m.Protos[r.Intn(len(m.Protos))]
	near := []int{-1, 0, 1, len(m.Texts), len(m.Protos), p.Slots, len(p.Ups), len(p.Code), 3, 4, 10, 11, 12, 40, 41}
	value := near[r.Intn(len(near))] - r.Intn(2)
	switch r.Intn(11) {
	case 0:
		p.Params += r.Intn(3) - 1
	case 1:
		p.Slots += r.Intn(3) - 1
	case 2:
		p.Ups = append(p.Ups, impl.Up{Local: r.Intn(2) == 0, Index: r.Intn(4) - 1})
	case 3:
		p.Ups = p.Ups[:r.Intn(len(p.Ups)+1)]
	case 4:
		if len(p.Ups) > 0 {
			p.Ups[r.Intn(len(p.Ups))] = impl.Up{Local: r.Intn(2) == 0, Index: value}
		}
	case 5:
		m.Texts = m.Texts[:r.Intn(len(m.Texts)+1)]
	case 6:
		p.Code = p.Code[:r.Intn(len(p.Code)+1)]
	case 7:
		m.Protos = m.Protos[:max(1, len(m.Protos)-1)]
	default:
		if len(p.Code) > 0 {
			p.Code[r.Intn(len(p.Code))] = ins(r.Intn(29), value)
		}
	}
}

// Modules that come of chance, held against the model.
func TestTurnedModules(t *testing.T) {
	r := rand.New(rand.NewSource(111))
	right, wrong := 0, 0
	for range 20000 {
		m, code, _ := impl.Compile(someProgram(r, 1+r.Intn(60), 1+r.Intn(5)).tree())
		if code != impl.CodDone {
			continue
		}
		for range 1 + r.Intn(2) {
			turnModule(r, &m)
		}
		want := modelModuleOk(m)
		checkModule(t, "a turned one", m, want)
		if want {
			right++
		} else {
			wrong++
		}
	}
	if right < 1000 || wrong < 1000 {
		t.Error("too few of either kind:", right, "right", wrong, "wrong")
	}
	for name, m := range oneFieldOff(broadModule(t)) {
		checkModule(t, name, m, modelModuleOk(m))
	}
}
