package tests

import (
	"fmt"
	"math"
	"strings"
	"testing"

	"loop.example/g00101/impl"
)

// checkUnits: a word for each fuel from 0 on: how many texts were printed when a unit lacked; the last word is how it ends with
// that fuel and with more: done or error.
func checkUnits(t *testing.T, text string, words string) {
	t.Helper()
	tree := treeOf(t, text)
	list := strings.Fields(words)
	end := len(list) - 1
	for fuel, word := range list[:end] {
		told := meaning(t, tree, fuel)
		if told.State != impl.MachFuel || fmt.Sprint(len(told.Out)) != word || told.Error != (impl.Val{}) {
			t.Errorf("%s\nwith %d: %+v, want %s printed", text, fuel, told, word)
		}
	}
	state := map[string]int{"done": impl.MachDone, "error": impl.MachError}[list[end]]
	for _, fuel := range []int{end, end + 1, end + 2, impl.MaxFuel} {
		if told := meaning(t, tree, fuel); told.State != state {
			t.Errorf("%s\nwith %d: %+v, want %s", text, fuel, told, list[end])
		}
	}
	checkByThinker(t, tree, impl.MaxFuel)
}

// zeros are that many units ahead of which nothing is printed.
func zeros(n int) string { return strings.Repeat("0 ", n) }

func TestUnitsOfStatements(t *testing.T) {
	checkUnits(t, "", "done")
	checkUnits(t, "-- nothing", "done")
	checkUnits(t, "local a = 1;", "0 done")
	checkUnits(t, "local a = fn(x) { print(x); print(x); };", "0 done")
	checkUnits(t, "local a = 1; a = 2; a = a + a * a;", "0 0 0 done")
	checkUnits(t, "local t = {1, {2}, x = {}}; t[1] = 3; t.x.y = 4;", "0 0 0 done")
	checkUnits(t, "return 1;", "0 done")
	checkUnits(t, "return 1; local a = 2; print(3);", "0 done")
	// Of an if it is one, and those of the block that is done.
	checkUnits(t, "if true { }", "0 done")
	checkUnits(t, "if false { local a = 1; }", "0 done")
	checkUnits(t, "if nil { } else { }", "0 done")
	checkUnits(t, "if 0 { local a = 1; local b = 2; } else { local c = 3; }", "0 0 0 done")
	checkUnits(t, "if nil { local a = 1; local b = 2; } else { local c = 3; }", "0 0 done")
	checkUnits(t, "if 1 { if 2 { if false { } else { return 3; } } }", "0 0 0 0 done")
	// An error ends it where it is raised.
	checkUnits(t, "local a = 1 / 0; local b = 2;", "0 error")
	checkUnits(t, "local a = 1; a = a + nil;", "0 0 error")
	checkUnits(t, "if 1 / 0 { local a = 2; }", "0 error")
}

func TestUnitsOfLoops(t *testing.T) {
	checkUnits(t, "while false { local a = 1; }", "0 done")
	checkUnits(t, "local i = 0; while i < 1 { i = i + 1; }", "0 0 0 0 done")
	checkUnits(t, "local i = 0; while i < 2 { i = i + 1; }", "0 0 0 0 0 0 done")
	// The block's unit is behind its statements.
	checkUnits(t, "local i = 0; while i < 2 { print(i); i = i + 1; }", "0 0 0 0 1 1 1 1 2 2 done")
	checkUnits(t, "while 1 / 0 { }", "0 error")
	// A loop in a loop: its statement each time, and each of its rounds.
	checkUnits(t, "local i = 0; while i < 2 { i = i + 1; local j = 0; while j < i { j = j + 1; } }", zeros(2+2*4+2+4)+"done")
	// What is asked may call: ahead of the first round, and behind each.
	checkUnits(t, "local i = 0; local f = fn() { i = i + 1; print(i); return i < 3; }; while f() { }", zeros(7)+"1 1 1 1 1 1 2 2 2 2 2 2 3 done")
	for _, fuel := range []int{0, 1, 2, 3, 99, 3999, 4000} {
		if told := meaning(t, treeOf(t, "while true { }"), fuel); !sameTold(told, impl.Told{State: impl.MachFuel}) {
			t.Error("for ever, with", fuel, told)
		}
	}
}

// The unit of a block is taken each time that the block is done, ahead of what is asked anew.
func TestUnitsBehindBlocks(t *testing.T) {
	for fuel := range 603 {
		told := meaning(t, treeOf(t, "while true { print(1); }"), fuel)
		if !sameTold(told, impl.Told{Out: strings.Fields(ones(fuel / 3)), State: impl.MachFuel}) {
			t.Error("for ever, with", fuel, told)
		}
	}
	// The text that is one too many.
	full := impl.Told{Out: strings.Fields(ones(200)), State: impl.MachError, Error: impl.Val{Tag: impl.TInt, N: impl.ErrOut}}
	if told := meaning(t, treeOf(t, "while true { print(1); }"), 603); !sameTold(told, full) {
		t.Error("for ever, with 603", told)
	}
	checkUnits(t, `if (1 ~= ({1, 0})) { local vba = 0; while (vba < 3) { vba = (vba + 1); print(vba); } } else { if (10 ~= (10 - 0)) { print(({[3] = (7 * 10), ["x"] = (- 2)})); } } local vca = ({["x"] = false});`,
		zeros(6)+"1 1 1 1 2 2 2 2 3 3 done")
	checkUnits(t, "local go = true; while go { go = false; } print(1);", "0 0 0 0 0 0 done")
	checkUnits(t, "local go = true; while go { go = false; print(1); } print(2);", "0 0 0 0 0 1 1 1 done")
	checkUnits(t, "local f = fn(x) { print(x); return x < 2; }; local i = 0; while f(i) { i = i + 2; }", zeros(6)+"1 1 1 1 1 1 2 done")
	// A loop in a loop: the unit of the inner block, then what is behind that loop, then the unit of the outer one.
	checkUnits(t, "local i = 0; while i < 2 { i = i + 1; local j = 0; while j < i { j = j + 1; print(j); } print(9); }",
		zeros(8)+"1 1 1 2 2 2 2 2 2 2 3 3 3 3 4 4 4 5 done")
}

// A block that a return or an error leaves was not done.
func TestUnitsOfBlocksThatAreLeft(t *testing.T) {
	checkUnits(t, "while true { return 1; }", "0 0 done")
	checkUnits(t, "while 1 { while 2 { if 3 { return 4; } } }", "0 0 0 0 done")
	checkUnits(t, "local f = fn() { while true { print(1); return 2; } }; f(); print(3);", zeros(6)+"1 1 1 done")
	checkUnits(t, "while 1 { local a = 1 / 0; }", "0 0 error")
	checkUnits(t, "while true { print(1); nil(); }", "0 0 0 1 1 error")
	checkUnits(t, "pcall(fn() { while true { print(1); error(2); } }); print(3);", zeros(6)+"1 1 1 1 done")
	// The times ahead of the one that is left were done.
	checkUnits(t, "local i = 0; while true { i = i + 1; if i == 3 { return i; } }", zeros(2+2*3+3)+"done")
	checkUnits(t, "local i = 3; while true { i = i - 1; print(6 / i); }", zeros(5)+"1 1 1 1 2 2 2 error")
}

func TestUnitsOfCalls(t *testing.T) {
	checkUnits(t, "print(1);", "0 0 done")
	checkUnits(t, "print(1); print(2);", "0 0 1 1 done")
	checkUnits(t, "local f = fn() { }; f();", "0 0 0 done")
	checkUnits(t, "local f = fn() { return 1; }; f(); f();", "0 0 0 0 0 0 0 done")
	checkUnits(t, "local a = tostr(1);", "0 0 done")
	checkUnits(t, "local a = {type(1), x = type(2), [type(3)] = type(4)};", "0 0 0 0 0 done")
	checkUnits(t, "local a = failed() or failed() or failed();", "0 0 0 0 done")
	checkUnits(t, "local a = failed() and failed() and failed();", "0 0 done")
	checkUnits(t, "return next({}, nil);", "0 0 done")
	// What is called and the arguments come ahead of the call.
	checkUnits(t, "print(print(1));", "0 0 1 done")
	checkUnits(t, "print(print(1), print(2), print(3));", "0 0 1 2 3 done")
	checkUnits(t, "(fn() { print(1); return print; })()(print(2));", "0 0 0 0 1 1 2 done")
	checkUnits(t, "local f = fn(x) { print(x); return x; }; f(f(1));", "0 0 0 0 0 1 1 1 1 2 done")
	checkUnits(t, "print(1 / 0);", "0 error")
	checkUnits(t, "print(print(1), nil + 1);", "0 0 error")
	// A call of what can't be called is one.
	checkUnits(t, "nil();", "0 0 error")
	checkUnits(t, "(1)(print(2));", "0 0 1 error")
	checkUnits(t, "error(1);", "0 0 error")
	checkUnits(t, "state(1);", "0 0 error")
	checkUnits(t, "next(1);", "0 0 error")
	// Each time that a function calls itself.
	checkUnits(t, "local f = nil; f = fn(n) { if n < 1 { return 0; } return f(n - 1); }; f(2);", zeros(3+3*3)+"done")
}

// pcall is a call, what it calls is another one; what it can't call is none.
func TestUnitsOfPcall(t *testing.T) {
	checkUnits(t, "pcall(fn() { });", "0 0 0 done")
	checkUnits(t, "pcall(fn(x) { print(x); return 1; }, 2);", "0 0 0 0 0 1 done")
	checkUnits(t, "print(pcall(fn(x) { return x; }, 2));", "0 0 0 0 0 done")
	checkUnits(t, "pcall(fn() { local a = 1 / 0; print(1); });", "0 0 0 0 done")
	checkUnits(t, "pcall(fn() { error(1); print(1); });", "0 0 0 0 0 done")
	checkUnits(t, "pcall(nil);", "0 0 error")
	checkUnits(t, "pcall(print, 1);", "0 0 error")
	checkUnits(t, "pcall(fn() { pcall(fn() { }); pcall(nil); print(1); }); print(2);", "0 0 0 0 0 0 0 0 0 0 done")
	checkUnits(t, "pcall(fn(x) { print(1); x(); }, nil); print(2);", "0 0 0 0 0 1 1 1 1 done")
	// A unit that lacks is no error: nobody catches it.
	for fuel := range 60 {
		told := meaning(t, treeOf(t, "print(pcall(fn() { while true { } })); print(failed());"), fuel)
		if !sameTold(told, impl.Told{State: impl.MachFuel}) {
			t.Error("caught, with", fuel, told)
		}
	}
}

// Units that lack within all that is open.
func TestUnitsThatLackDeepWithin(t *testing.T) {
	text := "local t = {}; t[1] = fn(a) { if a { while a { print(a); a = false; } } return a; }; print(1 + #tostr(pcall(t[1], 2) or t[1](3)));"
	checkUnits(t, text, zeros(9)+"1 1 1 1 1 1 1 1 2 2 2 2 2 done")
	if told := meaning(t, treeOf(t, text), 100); strings.Join(told.Out, " ") != "2 3 6" {
		t.Error("out", told)
	}
}

// needs is a program that needs so many units, from 4 on.
func needs(units int) string {
	text := fmt.Sprintf("local i = 0; while i < %d { i = i + 1; }", (units-2)/2)
	if units%2 == 1 {
		text += " return i;"
	}
	return text
}

func TestUnitsAtTheMost(t *testing.T) {
	for _, units := range []int{4, 5, 100, 101, 3998, 3999, 4000} {
		tree := treeOf(t, needs(units))
		if told := meaning(t, tree, units); told.State != impl.MachDone {
			t.Error(units, "are not enough for", units, told)
		}
		if told := meaning(t, tree, units-1); told.State != impl.MachFuel {
			t.Error(units-1, "are enough for", units, told)
		}
		checkByThinker(t, tree, impl.MaxFuel)
	}
	for _, units := range []int{4001, 4002, 9000} {
		if told := meaning(t, treeOf(t, needs(units)), impl.MaxFuel); told.State != impl.MachFuel {
			t.Error("4000 are enough for", units, told)
		}
	}
}

// Fuel is 0 .. MaxFuel.
func TestFuelOfMeanings(t *testing.T) {
	for _, text := range []string{"", "print(1);", "while true { }", "co(1);", "x = 1;"} {
		tree := treeOf(t, text)
		for _, fuel := range []int{-1, 4001, -4000, 8000, math.MinInt, math.MaxInt} {
			if told, code := impl.Mean(tree, fuel); code != impl.CodBad || !sameTold(told, impl.Told{}) {
				t.Errorf("%q with %d: %d %+v", text, fuel, code, told)
			}
		}
		for _, fuel := range []int{0, 1, 3999, 4000} {
			checkByThinker(t, tree, fuel)
		}
	}
	if impl.MaxFuel != 4000 {
		t.Error("MaxFuel", impl.MaxFuel)
	}
}
