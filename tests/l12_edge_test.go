package tests

import (
	"fmt"
	"strings"
	"testing"

	"loop.example/g00101/impl"
)

// endsWith: the coroutine is over, its stack empty, and the State is MachError with that value, which nobody caught.
func endsWith(v impl.Val) func(s *scene) {
	return func(s *scene) {
		s.setStack("")
		copy(s.Words[s.place("run")+1:], []uint64{3, 0, 0, 0})
		s.State, s.Error = impl.MachError, v
	}
}

// fails is a deed that raises an error of the machine, which nobody catches; what was loaded by then stays loaded.
func fails(code int, i impl.Ins, stack string, copies string) deed {
	return deed{i: i, stack: stack, copies: copies, then: "self", more: func(s *scene) {
		endsWith(num(code))(s)
		s.Deep = s.Deep || code == impl.ErrStack
		s.Short = s.Short || code == impl.ErrMemory
	}}
}

func withLays(d deed, lays string) deed {
	d.lays = lays
	return d
}

func ones(n int) string { return strings.Repeat(" 1", n) }

func TestErrorNumbers(t *testing.T) {
	got := []int{impl.ErrType, impl.ErrZero, impl.ErrKey, impl.ErrStack, impl.ErrMemory, impl.ErrCall, impl.ErrDead, impl.ErrLong, impl.ErrFull, impl.ErrOut}
	for i, code := range got {
		if code != i+1 {
			t.Error("the error", i+1, "is", code)
		}
	}
	if impl.MaxFuel != 4000 {
		t.Error("fuel", impl.MaxFuel)
	}
}

// At StackCap nothing is pushed; one below it, it is.
func TestFullStacks(t *testing.T) {
	for _, i := range []impl.Ins{ins(impl.ONil, 0), ins(impl.OBool, 1), ins(impl.OInt, 4), ins(impl.OLib, 2)} {
		want := []string{"", "nil", "yes", "4"}
		word := "lib:2"
		if i.Op < len(want) {
			word = want[i.Op]
		}
		checkDeed(t, fails(impl.ErrStack, i, "self |"+ones(57), ""))
		checkDeed(t, fails(impl.ErrStack, i, "self"+ones(20)+" |"+ones(37), ""))
		checkDeed(t, deed{i: i, stack: "self |" + ones(56), then: "self |" + ones(56) + " " + word})
	}
	checkDeeds(t,
		fails(impl.ErrStack, ins(impl.OMark, 0), "self |"+ones(57), ""),
		fails(impl.ErrStack, ins(impl.OMark, 0), "self |"+ones(56), ""),
		deed{i: ins(impl.OMark, 0), stack: "self |" + ones(55), then: "self |" + ones(55) + " 0 0"},
		// What is to be pushed is loaded ahead of it.
		fails(impl.ErrStack, ins(impl.OLocal, 0), "self ab |"+ones(56), "ab"),
		deed{i: ins(impl.OLocal, 0), stack: "self ab |" + ones(55), copies: "ab", then: "self *ab |" + ones(55) + " *ab"},
		withLays(fails(impl.ErrStack, ins(impl.OBoxed, 0), "self bin |"+ones(56), "bin ab"), "bin.0=*ab"),
		deed{i: ins(impl.OBoxed, 0), stack: "self box |" + ones(55), copies: "box", then: "self *box |" + ones(55) + " 7"},
		withLays(fails(impl.ErrStack, ins(impl.OUp, 1), "self |"+ones(57), "self bin ab"), "self.1=*bin bin.0=*ab"),
		fails(impl.ErrStack, ins(impl.ODup, 0), "self |"+ones(56)+" cd", "cd"),
		deed{i: ins(impl.ODup, 0), stack: "self |" + ones(55) + " cd", copies: "cd", then: "self |" + ones(55) + " *cd *cd"},
		// What takes has room for what it pushes.
		deed{i: ins(impl.OTurn, impl.TurnNot), stack: "self |" + ones(57), then: "self |" + ones(56) + " no"},
		deed{i: ins(impl.OOp, impl.OpAdd), stack: "self |" + ones(57), then: "self |" + ones(55) + " 2"},
		deed{i: ins(impl.OCall, 0), stack: "self |" + ones(54) + " 0 0 lib:7", then: "self |" + ones(54) + " no"},
		deed{i: ins(impl.OCall, 40), stack: "self |" + ones(14) + " 0 0 lib:7" + ones(40), then: "self |" + ones(14) + " no"},
	)
}

// Nothing above base and Slots is nothing to take, whatever stands below.
func TestNothingToTake(t *testing.T) {
	for _, i := range []impl.Ins{
		ins(impl.OSet, 0), ins(impl.OSetBox, 0), ins(impl.OSetUp, 0), ins(impl.OJumpNot, 0), ins(impl.OAnd, 0), ins(impl.OOr, 0),
		ins(impl.OPop, 0), ins(impl.ODup, 0), ins(impl.OTurn, 1), ins(impl.OTurn, 2), ins(impl.OTurn, 3), ins(impl.OReturn, 0),
		ins(impl.OIndex, 0), ins(impl.OPut, 0), ins(impl.OOp, 1), ins(impl.OOp, 6), ins(impl.OOp, 7), ins(impl.OCall, 0), ins(impl.OCall, 40),
	} {
		checkDeed(t, fails(impl.ErrType, i, "self box |", ""))
		checkDeed(t, fails(impl.ErrType, i, "self box"+ones(19)+" |", ""))
	}
	// The first is taken by then.
	for _, i := range []impl.Ins{ins(impl.OIndex, 0), ins(impl.OPut, 0), ins(impl.OOp, 1), ins(impl.OOp, 6), ins(impl.OOp, 7)} {
		checkDeed(t, fails(impl.ErrType, i, "self table | ab", "ab"))
	}
	checkDeed(t, fails(impl.ErrType, ins(impl.OPut, 0), "self table | cd ab", "ab cd"))
	for n := range 41 {
		checkDeed(t, fails(impl.ErrType, ins(impl.OCall, n), "self ab 0 | 0 plain"+ones(n), ""))
		checkDeed(t, fails(impl.ErrType, ins(impl.OCall, n), "self ab 0 |"+ones(n), ""))
		checkDeed(t, answers(7, strings.TrimSpace(ones(n)), "no", nil))
	}
}

// someOfEach are values of each type.
func someOfEach() []string {
	return []string{"nil", "yes", "no", "0", "1", "-1", "ab", "cd", "table", "empty", "self", "plain", "odd", "co", "run", "lib:1", "lib:20", "box", "bin"}
}

func without(list []string, gone ...string) []string {
	var left []string
	for _, one := range list {
		if !strings.Contains(" "+strings.Join(gone, " ")+" ", " "+one+" ") {
			left = append(left, one)
		}
	}
	return left
}

func TestWhatIsNoBox(t *testing.T) {
	for _, v := range without(someOfEach(), "box", "bin") {
		checkDeeds(t,
			fails(impl.ErrType, ins(impl.OBoxed, 1), "self box "+v+" | cd", objectsOf(v)),
			fails(impl.ErrType, ins(impl.OSetBox, 1), "self box "+v+" | cd", objectsOf("cd", v)),
		)
	}
	// A function with fewer slots than its Proto has Ups.
	for a := range 2 {
		checkDeeds(t,
			fails(impl.ErrType, ins(impl.OUp, a), "bare |", "bare"),
			fails(impl.ErrType, ins(impl.OSetUp, a), "bare | cd", "cd bare"),
		)
	}
}

func TestWhatIsNoTable(t *testing.T) {
	for _, v := range without(someOfEach(), "table", "empty") {
		checkDeeds(t,
			fails(impl.ErrType, ins(impl.OIndex, 0), "self | "+v+" cd", objectsOf("cd", v)),
			fails(impl.ErrType, ins(impl.OIndex, 0), "self | "+v+" box", objectsOf("box", v)),
			fails(impl.ErrType, ins(impl.OPut, 0), "self | "+v+" cd ab", objectsOf("ab", "cd", v)),
			fails(impl.ErrType, ins(impl.OPut, 0), "self | "+v+" nil 1", objectsOf(v)),
		)
	}
	for _, table := range []string{"table", "empty"} {
		checkDeeds(t,
			fails(impl.ErrType, ins(impl.OPut, 0), "self | "+table+" 1 box", "box "+table),
			fails(impl.ErrType, ins(impl.OPut, 0), "self | "+table+" box 1", "box "+table),
			fails(impl.ErrType, ins(impl.OPut, 0), "self | "+table+" box nil", "box "+table),
			fails(impl.ErrType, ins(impl.OPut, 0), "self | "+table+" nil box", "box "+table),
			fails(impl.ErrKey, ins(impl.OPut, 0), "self | "+table+" nil 1", table),
			fails(impl.ErrKey, ins(impl.OPut, 0), "self | "+table+" nil nil", table),
		)
	}
}

// Of each two types, each operation that is none of them.
func TestOperationsOfOtherTypes(t *testing.T) {
	isText := func(v string) bool { return v == "ab" || v == "cd" }
	isNumber := func(v string) bool { return v == "0" || v == "1" || v == "-1" }
	for _, a := range without(someOfEach(), "no", "cd", "empty", "odd", "lib:20", "bin") {
		for _, b := range without(someOfEach(), "no", "cd", "empty", "odd", "lib:20", "bin") {
			for op := impl.OpAdd; op <= impl.OpLe; op++ {
				if op == impl.OpEq || op == impl.OpNe || isNumber(a) && isNumber(b) && op != impl.OpJoin {
					continue
				}
				if isText(a) && isText(b) && (op == impl.OpJoin || op == impl.OpLt || op == impl.OpLe) {
					continue
				}
				checkDeed(t, fails(impl.ErrType, ins(impl.OOp, op), "self | "+a+" "+b, objectsOf(b, a)))
			}
		}
	}
	for _, v := range []string{"0", "1", "-1", "9223372036854775807", "-9223372036854775808"} {
		checkDeed(t, fails(impl.ErrZero, ins(impl.OOp, impl.OpDiv), "self | "+v+" 0", ""))
		checkDeed(t, fails(impl.ErrZero, ins(impl.OOp, impl.OpMod), "self | "+v+" 0", ""))
	}
	for _, v := range someOfEach() {
		if !isNumber(v) {
			checkDeed(t, fails(impl.ErrType, ins(impl.OTurn, impl.TurnNeg), "self | "+v, objectsOf(v)))
		}
		if !isText(v) && v != "table" && v != "empty" {
			checkDeed(t, fails(impl.ErrType, ins(impl.OTurn, impl.TurnLen), "self | "+v, objectsOf(v)))
		}
	}
}

// libFails: a library function raises; its arguments are only looked at, but for those that are copied.
func libFails(code int, lib int, args string, copies string) deed {
	return fails(code, ins(impl.OCall, len(strings.Fields(args))), fmt.Sprint("self 1 | 2 0 0 lib:", lib, " ", args), copies)
}

func TestWhatCantBeCalled(t *testing.T) {
	for _, v := range without(someOfEach(), "self", "plain", "lib:1") {
		checkDeed(t, fails(impl.ErrCall, ins(impl.OCall, 1), "self | 0 0 "+v+" ab", ""))
	}
	for lib := 12; lib <= 20; lib++ {
		checkDeed(t, libFails(impl.ErrCall, lib, "ab", ""))
	}
	for _, v := range append(without(someOfEach(), "self", "plain", "odd"), "") {
		checkDeeds(t, libFails(impl.ErrCall, 5, v+" ab", ""), libFails(impl.ErrCall, 8, v, ""))
	}
	// Called, but no Proto's.
	checkDeeds(t, libFails(impl.ErrCall, 5, "odd ab", ""), libFails(impl.ErrCall, 5, "odd", ""))
	for _, v := range append(without(someOfEach(), "table", "empty"), "") {
		checkDeed(t, libFails(impl.ErrType, 4, v+" 1", ""))
	}
	for _, v := range append(without(someOfEach(), "co", "run"), "") {
		checkDeeds(t, libFails(impl.ErrType, 9, v+" 1", ""), libFails(impl.ErrType, 11, v, ""))
	}
}

// Both are loaded; the table is left where it lies, block and all.
func TestNextOfNoKey(t *testing.T) {
	for _, key := range []string{"2", "0", "ab", "yes", "empty", "table", "plain", "box", "lib:1", "run", "co"} {
		checkDeeds(t,
			libFails(impl.ErrKey, 4, "table "+key, objectsOf("table", key)),
			libFails(impl.ErrKey, 4, "empty "+key+" 1", objectsOf("empty", key)),
		)
	}
}

func TestErrorRaisesAnyValue(t *testing.T) {
	tags := map[string]int{"ab": impl.TStr, "cd": impl.TStr, "table": impl.TTab, "empty": impl.TTab, "self": impl.TFun, "plain": impl.TFun, "odd": impl.TFun, "co": impl.TCo, "run": impl.TCo, "box": impl.TCell, "bin": impl.TCell}
	for _, v := range someOfEach() {
		d := libFails(0, 6, v+" 5", objectsOf(v))
		want := sceneOf(ins(impl.ONil, 0), "self |").val(v)
		if tag, is := tags[v]; is {
			want = impl.Val{Tag: tag} // the place is told of none
		}
		d.more = endsWith(want)
		checkDeed(t, d)
	}
	d := libFails(0, 6, "", "")
	d.more = endsWith(impl.Val{})
	checkDeed(t, d)
	// The numbers of errors of the machine are no more than numbers.
	for _, code := range []int{impl.ErrStack, impl.ErrMemory} {
		d := libFails(0, 6, fmt.Sprint(code), "")
		d.more = endsWith(num(code))
		checkDeed(t, d)
	}
}

// The frame is made when its slots reach StackCap, and not when they are one more. Proto 4 has 20 slots.
func TestCallsAtTheEndOfTheStack(t *testing.T) {
	for _, links := range []int{36, 37, 38} {
		stack := "self |" + ones(links-3)
		for n, called := range []string{" 0 0 plain", " 0 0 lib:5 plain"} {
			s := sceneOf(ins(impl.OCall, n), stack+called)
			s.Words[s.place("plain")+1] = 4
			for _, s := range []*scene{s, s.flipped()} {
				got := checkDo(t, stack+called, s.Machine)
				base := links + 3
				if fits := base+20 <= 60; fits == got.Deep || fits != (got.State == 0) || !fits && got.Error != num(impl.ErrStack) {
					t.Error(links, called, "deep", got.Deep, got.State, got.Error)
				}
				if got.State == 0 && (got.Words[got.Roots[0].N+3] != uint64(base) || got.Words[got.Roots[0].N+2] != uint64(base+20)) {
					t.Error(links, called, "base", got.Words[got.Roots[0].N+3])
				}
			}
		}
	}
	// Arguments that are too many are gone by then: only the slots count.
	s := sceneOf(ins(impl.OCall, 22), "self |"+ones(32)+" 0 0 plain"+ones(22))
	if got := checkDo(t, "many arguments", s.Machine); got.State != 0 || got.Words[got.Roots[0].N+2] != 41 {
		t.Error("top", got.Words[got.Roots[0].N+2])
	}
}

func TestPrintsAtMaxOut(t *testing.T) {
	for _, n := range []int{198, 199, 200} {
		s := sceneOf(ins(impl.OCall, 1), "self | 0 0 lib:1 ab")
		s.Out = repeated(n, "x")
		got := checkDo(t, "print", s.Machine)
		if n < 200 && (got.State != 0 || len(got.Out) != n+1 || got.Out[n] != "ab") {
			t.Error(n, "texts: ", got.State, len(got.Out))
		}
		if n == 200 && (got.State != impl.MachError || got.Error != num(impl.ErrOut) || len(got.Out) != 200) {
			t.Error(n, "texts: ", got.State, got.Error, len(got.Out))
		}
	}
}
