package tests

import (
	"fmt"
	"math/rand"
	"slices"
	"strings"
	"testing"

	"loop.example/g00101/impl"
)

// wrongWith says what is wrong with a module that was made; "" for nothing.
func wrongWith(m impl.Module) string {
	if len(m.Protos) < 1 || len(m.Protos) > 100 || len(m.Texts) > 255 {
		return fmt.Sprint("there are ", len(m.Protos), " Protos and ", len(m.Texts), " Texts")
	}
	for i, text := range m.Texts {
		if len(text) > 160 || slices.Contains(m.Texts[:i], text) {
			return fmt.Sprintf("the Text %q", text)
		}
	}
	if m.Protos[0].Params != 0 || len(m.Protos[0].Ups) != 0 {
		return "the Top has Params or Ups"
	}
	for i, p := range m.Protos {
		last := len(p.Code) - 1
		if p.Params < 0 || p.Params > p.Slots || p.Slots > 20 || len(p.Ups) > 12 || last < 1 || last >= 4000 {
			return fmt.Sprint("the Proto ", i, " has too many of something")
		}
		if p.Code[last] != (impl.Ins{Op: impl.OReturn}) || p.Code[last-1] != (impl.Ins{Op: impl.ONil}) {
			return fmt.Sprint("the end of the Proto ", i)
		}
		for at, ins := range p.Code {
			if !isThere(m, p, ins) {
				return fmt.Sprint("the instruction ", at, " of the Proto ", i, ": ", toldIns(ins))
			}
		}
	}
	return ""
}

// isThere: what the instruction of a Proto names is there.
func isThere(m impl.Module, p impl.Proto, ins impl.Ins) bool {
	from, to := 0, 0
	switch ins.Op {
	case impl.OBool:
		to = 1
	case impl.OInt:
		to = 999999999999999
	case impl.OText:
		to = len(m.Texts) - 1
	case impl.OLocal, impl.OBoxed, impl.OSet, impl.OSetBox, impl.OBox:
		to = p.Slots - 1
	case impl.OUp, impl.OSetUp:
		to = len(p.Ups) - 1
	case impl.OFn:
		from, to = 1, len(m.Protos)-1
		if ins.A >= from && ins.A <= to && !areUpsThere(p, m.Protos[ins.A]) {
			return false
		}
	case impl.OOp:
		from, to = 1, 10
	case impl.OTurn:
		from, to = 1, 3
	case impl.OJump, impl.OJumpNot, impl.OAnd, impl.OOr:
		to = len(p.Code) - 1
	case impl.OCall:
		to = 40
	case impl.OLib:
		from, to = 1, 11
	case impl.ONil, impl.OTab, impl.OIndex, impl.OPut, impl.OMark, impl.OReturn, impl.OPop, impl.ODup:
	default:
		return false
	}
	return ins.A >= from && ins.A <= to
}

// areUpsThere: each Up of a function within leads to a slot that is boxed, or to an Up; no two to one.
func areUpsThere(around impl.Proto, p impl.Proto) bool {
	for i, up := range p.Ups {
		if slices.Contains(p.Ups[:i], up) || up.Index < 0 {
			return false
		}
		if up.Local && !slices.Contains(around.Code, impl.Ins{Op: impl.OBox, A: up.Index}) {
			return false
		}
		if !up.Local && up.Index >= len(around.Ups) {
			return false
		}
	}
	return true
}

// checkRightModule: it is right, each function is made once, and no boxed slot is used as one that is not.
func checkRightModule(t *testing.T, tree impl.Tree, m impl.Module) {
	t.Helper()
	if wrong := wrongWith(m); wrong != "" {
		t.Errorf("%s, in\n%s\nof\n%.2000s", wrong, strings.Join(toldModule(m), "\n"), treeLines(tree))
		return
	}
	made := make([]int, len(m.Protos))
	made[0]++
	named := make([]bool, len(m.Texts))
	for _, p := range m.Protos {
		boxed := map[int]bool{}
		for _, ins := range p.Code {
			switch ins.Op {
			case impl.OFn:
				made[ins.A]++
			case impl.OText:
				named[ins.A] = true
			case impl.OBox:
				boxed[ins.A] = true
			}
		}
		for _, ins := range p.Code {
			boxes := ins.Op == impl.OBoxed || ins.Op == impl.OSetBox
			if boxes && !boxed[ins.A] || ins.Op == impl.OLocal && boxed[ins.A] {
				t.Error("a slot is boxed, and is not:", toldProto(p))
			}
		}
	}
	if slices.Max(made) != 1 || slices.Min(made) != 1 || slices.Contains(named, false) {
		t.Error("functions are made", made, "times, texts named", named)
	}
}

// What is made of programs by chance is right, and leads into itself alone.
func TestWhatIsMadeIsRight(t *testing.T) {
	r := rand.New(rand.NewSource(14))
	done := 0
	for range 4000 {
		tree := someProgram(r, 1+r.Intn(150), 1+r.Intn(7)).tree()
		m, code, _ := impl.Compile(tree)
		if code == impl.CodDone {
			done++
			checkRightModule(t, tree, m)
		}
	}
	if done < 2000 {
		t.Error("only", done, "programs")
	}
}

// A tree that is printed and read again has the same code.
func TestCodeOfWhatIsPrinted(t *testing.T) {
	r := rand.New(rand.NewSource(15))
	again := 0
	for range 3000 {
		tree := someProgram(r, 1+r.Intn(60), 1+r.Intn(5)).tree()
		text, _ := impl.Print(tree)
		back, code, _ := impl.Parse(text)
		if code != impl.ParDone {
			continue
		}
		again++
		m, code, node := impl.Compile(tree)
		o, codeBack, nodeBack := impl.Compile(back)
		if code != codeBack || node != nodeBack || !slices.Equal(toldModule(m), toldModule(o)) || !impl.ModuleSame(m, o) {
			t.Errorf("%q: %d at %d, and %d at %d, or other code", text, code, node, codeBack, nodeBack)
		}
	}
	if again < 1500 {
		t.Error("only", again, "are read again")
	}
}

// How a text is written makes no other code.
func TestCodeOfOneProgramWrittenTwice(t *testing.T) {
	for _, pair := range [][2]string{
		{"local a = {x = 1}; a.x = a.y;", `local a = ({["x"] = (1)}); (a)["x"] = a["y"]; -- said twice`},
		{"return 1 + 2 * 3 < 4 and 5 or 6;", "return (((1 + (2 * 3)) < 4) and 5) or 6;"},
		{"print(1)(2);", "((print)(1))((2));"},
	} {
		if !impl.ModuleSame(moduleOf(t, treeOf(t, pair[0])), moduleOf(t, treeOf(t, pair[1]))) {
			t.Error("other code", pair)
		}
	}
}

// What the names of locals are makes no other code, as long as they name the same.
func TestCodeWithOtherNames(t *testing.T) {
	r := rand.New(rand.NewSource(16))
	for range 500 {
		tree := someProgram(r, 1+r.Intn(60), 1+r.Intn(5)).tree()
		m, code, node := impl.Compile(tree)
		model := newCodeModel(tree)
		other := cloneTree(tree)
		for n, knot := range tree.Nodes {
			local, known := model.named[n]
			if knot.Kind == impl.NLocal || knot.Kind == impl.NParam {
				local, known = n, true
			}
			if known {
				other.Nodes[n].Text = "n" + strings.Map(func(r rune) rune { return r - '0' + 'A' }, fmt.Sprint(local))
			}
		}
		o, codeOther, nodeOther := impl.Compile(other)
		if code != codeOther || node != nodeOther || !impl.ModuleSame(m, o) {
			t.Errorf("%d at %d, and %d at %d with names of their own:\n%s", code, node, codeOther, nodeOther, treeLines(tree))
		}
	}
}

// Trees that no text is: as deep as they can be.
func TestCodeOfDeepTrees(t *testing.T) {
	e := tInt(1)
	for range 2990 {
		e = tTurn(impl.TurnNeg, e)
	}
	if m := checkFits(t, tBlock(tReturn(e))); len(m.Protos[0].Code) != 2994 {
		t.Error("code", len(m.Protos[0].Code))
	}
	statement := tReturn(tNil())
	for range 990 {
		statement = tIf(tNil(), tBlock(statement))
	}
	m := checkFits(t, tBlock(statement))
	for at, ins := range m.Protos[0].Code {
		if ins.Op == impl.OJumpNot && ins.A != 2*990+2 {
			t.Fatal("the jump at", at, "leads to", ins.A)
		}
	}
	either := tName("print")
	for i := range 1490 {
		if i%2 == 0 {
			either = tAnd(tNil(), either)
		} else {
			either = tOr(tNil(), either)
		}
	}
	m = checkFits(t, tBlock(tReturn(either)))
	for at, ins := range m.Protos[0].Code {
		if (ins.Op == impl.OAnd || ins.Op == impl.OOr) && ins.A != 2*1490+1 {
			t.Fatal("the jump at", at, "leads to", ins.A)
		}
	}
	checkCompile(t, tBlock(append(times(1490, func(i int) twig { return tReturn(tNil()) }), tReturn(tName("x")))...).tree())
	checkCompile(t, tBlock(times(1499, func(i int) twig { return tLocal("a", tNil()) })...).tree())
}
