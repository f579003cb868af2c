package tests

import (
	"fmt"
	"math/rand"
	"slices"
	"strings"
	"testing"

	"loop.example/g00101/impl"
)

// act is a program, and what it tells.
type act struct {
	text  string
	out   string // parted by blanks
	state int
	err   impl.Val
}

func done(text string, out string) act { return act{text, out, impl.MachDone, impl.Val{}} }

func ends(text string, out string, code int) act { return act{text, out, impl.MachError, num(code)} }

// told is all that a machine tells but its words: they hang on what was copied.
func told(t *testing.T, m impl.Machine) string {
	t.Helper()
	shape, ok := impl.ShapeOf(m.Arena)
	if !ok {
		t.Fatal("no shape")
	}
	return fmt.Sprint(m.Out, m.State, m.Error, m.Steps, m.Failed, m.Deep, m.Short, m.Serial, shape)
}

// checkAct runs a program at once, and step by step in company: nothing of what it tells is another one.
func checkAct(t *testing.T, a act, semi int) impl.Machine {
	t.Helper()
	first := booted(t, a.text, semi)
	m, state := impl.RunMachine(first, impl.MaxFuel)
	if state != a.state || m.State != a.state || m.Error != a.err || !slices.Equal(m.Out, strings.Fields(a.out)) {
		t.Errorf("%s\nstate %d error %v out %q, want %d %v %q", a.text, state, m.Error, m.Out, a.state, a.err, a.out)
		return m
	}
	r := rand.New(rand.NewSource(int64(len(a.text))))
	for range 3 {
		x := first
		for x.State == 0 {
			x = movedBy(r, x)
			x, _ = impl.Step(x)
		}
		if told(t, x) != told(t, m) {
			t.Errorf("%s\nmoved, it tells another tale:\n%s\nwant\n%s", a.text, told(t, x), told(t, m))
		}
	}
	return m
}

func checkActs(t *testing.T, list ...act) {
	t.Helper()
	for _, a := range list {
		checkAct(t, a, 1000)
	}
}

func TestProgramsOfFunctions(t *testing.T) {
	checkActs(t,
		done("", ""),
		done("return 1; print(2);", ""),
		done("print(); print(1, 2); print(nil);", "nil 1 nil"),
		// Fewer and more arguments than Params.
		done("local f = fn(a, b) { print(a); print(b); return a; }; f(); f(1); f(1, 2); f(1, 2, 3); print(f(7));", "nil nil 1 nil 1 2 1 2 7 nil 7"),
		done("local f = fn() { local a = nil; print(a); a = 5; return a; }; print(f(1, 2, 3)); print(f());", "nil 5 nil 5"),
		done("print((fn(a) { })(1));", "nil"),
		// Arguments are no places of who calls.
		done("local a = 1; local f = fn(a) { a = a + 1; return a; }; print(f(a)); print(a);", "2 1"),
		// Closures share what they name, and each call has its own.
		done("local make = fn(n) { return fn() { n = n + 1; return n; }; }; local a = make(1); local b = make(10); a(); print(a()); print(b()); print(a());", "3 11 4"),
		done("local n = 0; local up = fn() { n = n + 1; }; local see = fn() { return n; }; up(); up(); print(see()); n = 9; print(see());", "2 9"),
		done("local f = fn(a) { return fn(b) { return fn(c) { a = a + b; return a * c; }; }; }; local g = f(1)(2); print(g(3)); print(g(3));", "9 15"),
		done("local t = {}; local i = 0; while i < 3 { i = i + 1; local j = i; t[i] = fn() { j = j + 1; return j; }; } print(t[1]()); print(t[1]()); print(t[3]());", "2 3 4"),
		done("local fib = nil; fib = fn(n) { if n < 2 { return n; } return fib(n - 1) + fib(n - 2); }; print(fib(7));", "13"),
		// Recursion as deep as the stack: each frame has its links, the function and a slot; the first one begins at 10.
		done("local d = nil; d = fn(n) { if n == 0 { return 0; } return d(n - 1); }; print(d(11));", "0"),
	)
	m := checkAct(t, ends("local d = nil; d = fn(n) { if n == 0 { return 0; } return d(n - 1); }; print(d(12));", "", impl.ErrStack), 1000)
	if !m.Deep || m.Short {
		t.Error("deep", m.Deep, m.Short)
	}
}

func TestProgramsOfValues(t *testing.T) {
	checkActs(t,
		done("print(7 / -2); print(-7 % 2); print(7 % -2); print(-7 / 2); print(1 - 2 * 3);", "-3 -1 1 -3 -5"),
		done(`print("a" .. "b" .. "c"); print(#("ab" .. "cd")); print("a" < "b"); print("b" <= "a"); print("" < "a"); print("ab" == "a" .. "b");`, "abc 4 true false true true"),
		done("print(1 == 1); print(1 == true); print(nil == false); print({} == {}); local t = {}; print(t == t); print(t ~= t); print(print == print); print(print ~= type);", "true false false false true false true true"),
		done(`print(nil and 1); print(false or 2); print(0 and 3); print(#("" or "x")); print(nil or false); print(1 and nil or 5);`, "nil 2 3 0 false 5"),
		done("print(not nil); print(not 0); print(- -3); print(-(-9 - 1)); print(#{1, 2, nil, 4}); print(#{});", "true false 3 10 2 0"),
		done("local x = 0; if x { print(1); } else { print(2); } if nil { print(3); } else { print(4); } if false { print(5); } print(6);", "1 4 6"),
		done("local i = 3; while i { print(i); i = i - 1; if i == 0 { i = nil; } } print(i);", "3 2 1 nil"),
		done(`print(type(nil)); print(type(true)); print(type(0)); print(type("")); print(type({})); print(type(fn() { })); print(type(type)); print(type(co(fn() { })));`, "nil bool int text table fn fn co"),
		done(`print(tostr(5) .. tostr(nil) .. tostr(true) .. tostr("x") .. tostr(print)); print(tostr({})); print(tostr(fn() { })); print(tostr(co(fn() { })));`, "5niltruexlib:1 table:3 fn:4 co:6"),
		done("print(pcall); print(state); print({}); print(fn() { }); print(co(fn() { })); print({});", "lib:5 lib:11 table:3 fn:4 co:6 table:7"),
	)
}

func TestProgramsOfTables(t *testing.T) {
	checkActs(t,
		done("local t = {5, 6, x = 7, [8] = 9}; print(t[1]); print(t[2]); print(t.x); print(t[8]); print(t[3]); print(t[nil]); print(#t);", "5 6 7 9 nil nil 2"),
		done("local t = {}; t[true] = 1; t[false] = 2; t[print] = 3; t[t] = 4; t[-1] = 5; print(t[true]); print(t[false]); print(t[print]); print(t[t]); print(t[-1]);", "1 2 3 4 5"),
		done(`local t = {}; t["a" .. "b"] = 1; print(t.ab); t.ab = nil; print(t.ab); print(next(t, nil));`, "1 nil nil"),
		// Keys come in the order of their entries.
		done("local t = {10, 20, 30}; local k = next(t, nil); while k { print(k); k = next(t, k); }", "1 2 3"),
		// Through a table while each is set to nothing: the keys are there still.
		done(`local t = {1, 2, 3, x = 4, y = 5, [9] = 6}; local n = 0; local k = next(t, nil); while k { t[k] = nil; n = n + 1; k = next(t, k); } print(n); print(next(t, nil)); print(next(t, 3)); print(#t);`, "6 nil nil 0"),
		done("local t = {1, 2, 3}; t[1] = nil; print(next(t, nil)); print(next(t, 1)); t[2] = nil; print(next(t, 1)); print(#t);", "2 2 3 0"),
		// Many keys, and what is gone of them.
		done("local t = {}; local i = 0; while i < 48 { i = i + 1; t[i] = i * i; } print(#t); i = 0; while i < 40 { i = i + 1; t[i] = nil; } t[100] = 1; print(#t); print(t[48]); local n = 0; local k = next(t, nil); while k { n = n + 1; k = next(t, k); } print(n);", "48 0 2304 9"),
		ends("local t = {}; t[nil] = 1;", "", impl.ErrKey),
		ends("print(next({}, 1));", "", impl.ErrKey),
		ends("local t = {1}; next(t, 2);", "", impl.ErrKey),
		ends("next(1);", "", impl.ErrType),
		ends("local t = 5; t.x = 1;", "", impl.ErrType),
		ends("local t = nil; print(t.x);", "", impl.ErrType),
		ends("local t = {}; local i = 0; while i < 49 { i = i + 1; t[i] = i; }", "", impl.ErrFull),
	)
}

func TestProgramsOfErrors(t *testing.T) {
	checkActs(t,
		ends("print(1); print(1 / 0); print(2);", "1", impl.ErrZero),
		ends("print(1 % 0);", "", impl.ErrZero),
		ends("print(1 + nil);", "", impl.ErrType),
		ends("nil();", "", impl.ErrCall),
		ends(`("x")(1);`, "", impl.ErrCall),
		ends("error(77);", "", 77),
		ends("yield(1);", "", impl.ErrDead),
		act{"error();", "", impl.MachError, impl.Val{}},
		act{"error(nil);", "", impl.MachError, impl.Val{}},
		act{"error(true);", "", impl.MachError, yes()},
		act{"error({});", "", impl.MachError, impl.Val{Tag: impl.TTab}},
		act{`error("x");`, "", impl.MachError, impl.Val{Tag: impl.TStr}},
		act{"error(error);", "", impl.MachError, impl.Val{Tag: impl.TLib, N: 6}},
		act{"error(fn() { });", "", impl.MachError, impl.Val{Tag: impl.TFun}},
		act{"error(co(fn() { }));", "", impl.MachError, impl.Val{Tag: impl.TCo}},
		// Failed: no at first, yes behind what was caught, no behind a call that went well.
		done("print(failed()); print(pcall(fn(x) { return x; }, 3)); print(failed()); print(pcall(fn(x) { error(x); return 0; }, 4)); print(failed()); print(pcall(fn() { return 1; })); print(failed());", "false 3 false 4 true 1 false"),
		// A function may tell the same as an error: Failed tells them apart.
		done("print(pcall(fn(x) { return 1 / x; }, 0)); print(failed()); print(pcall(fn(x) { return 2; }, 0)); print(failed());", "2 true 2 false"),
		// pcall in pcall: the inner one catches, the outer one goes well; then the other way.
		done("print(pcall(fn(x) { print(pcall(fn(y) { error(y); return 0; }, x + 1)); print(failed()); return 5; }, 1)); print(failed());", "2 true 5 false"),
		done("print(pcall(fn(x) { print(pcall(fn(y) { return y; }, x + 1)); print(failed()); error(6); return 5; }, 1)); print(failed());", "2 false 6 true"),
		done("print(pcall(fn(x) { pcall(fn(y) { error(8); return 0; }, 1); error(9); return 0; }, 1)); print(failed());", "9 true"),
		// What was called in between is gone with it.
		done("local f = fn(n) { return 1 + (fn(m) { return 1 + (fn(k) { error(k); return 0; })(m); })(n); }; print(pcall(f, 7)); print(1 + 1);", "7 2"),
		done("local n = 0; pcall(fn(x) { n = 5; error(1); return 0; }, 1); print(n);", "5"),
		// What an error takes with it was reckoned: the rest of an expression goes on.
		done("print(10 + pcall(fn(x) { error(x); return 0; }, 5));", "15"),
		// pcall of what is no function of the program is no call.
		ends("pcall(print, 1);", "", impl.ErrCall),
		ends("pcall(nil);", "", impl.ErrCall),
		done("print(pcall(fn(f) { return pcall(f, 1); }, print)); print(failed());", "6 true"),
		// With one argument, whatever Params are.
		done("print(pcall(fn(a, b) { return b; }, 1, 2)); print(pcall(fn() { return 3; }, 4)); print(pcall(fn(a) { return a; }));", "nil 3 nil"),
		done("local d = nil; d = fn(n) { return d(n) + 1; }; print(pcall(d, 0)); print(failed()); print(pcall(d, 0));", "4 true 4"),
	)
}

func TestProgramsOfCoroutines(t *testing.T) {
	checkActs(t,
		done("local c = co(fn(x) { local y = yield(x + 1); return y * 2; }); print(state(c)); print(resume(c, 4)); print(state(c)); print(resume(c, 10)); print(state(c));", "0 5 1 20 3"),
		done("local c = nil; local d = nil; d = co(fn(y) { print(state(c)); print(state(d)); return y; }); c = co(fn(x) { print(state(c)); print(state(d)); return resume(d, x); }); print(resume(c, 3)); print(state(c)); print(state(d));", "2 0 4 2 3 3 3"),
		// Without a value, with none taken, and with more.
		done("local c = co(fn(x) { print(x); print(yield()); return nil; }); print(resume(c)); print(resume(c)); print(state(c));", "nil nil nil nil 3"),
		done("local c = co(fn() { return yield(1); }); print(resume(c, 8, 9)); print(resume(c, 7, 6));", "1 7"),
		// One that yields from within a function, again and again.
		done("local each = fn(n) { local i = 0; while i < n { i = i + 1; yield(i); } return nil; }; local c = co(fn(n) { each(n); each(n); return 0; }); local v = resume(c, 2); while v { print(v); v = resume(c); if v == 0 { v = nil; } } print(state(c));", "1 2 1 2 3"),
		// Two that take turns.
		done("local a = co(fn(x) { while x { print(x); x = yield(0); } return 9; }); local b = co(fn(x) { while x { print(-x); x = yield(0); } return 8; }); resume(a, 1); resume(b, 1); resume(a, 2); resume(b, 2); print(resume(a)); print(resume(b));", "1 -1 2 -2 9 8"),
		// An error leaves the coroutine, and is caught by who resumed it, or by nobody.
		done("local d = co(fn(x) { error(x); return 0; }); print(pcall(fn(x) { return resume(d, x); }, 9)); print(failed()); print(state(d));", "9 true 3"),
		ends("local d = co(fn(x) { error(x); return 0; }); print(state(d)); resume(d, 9); print(state(d));", "0", 9),
		done("local d = co(fn(x) { print(pcall(fn(y) { error(y); return 0; }, x)); print(failed()); return x + 1; }); print(resume(d, 4)); print(failed());", "4 true 5 true"),
		// A pcall within a coroutine holds over a yield.
		done("local c = co(fn(x) { print(pcall(fn(y) { yield(y); error(y + 1); return 0; }, x)); return failed(); }); print(resume(c, 1)); print(failed()); print(resume(c)); print(state(c));", "1 false 2 true 3"),
		// One that was resumed within a pcall may yield out of it: the pcall goes well then.
		done("local c = co(fn(x) { yield(1); error(2); return 0; }); print(pcall(fn(x) { return resume(c, x); }, 0)); print(failed()); print(pcall(fn(x) { return resume(c, x); }, 0)); print(failed());", "1 false 2 true"),
		// What is over, runs or waits is not resumed.
		done("local c = co(fn(x) { return x; }); resume(c, 1); print(pcall(fn(x) { return resume(c, x); }, 1)); print(state(c));", "7 3"),
		done("local c = nil; c = co(fn(x) { return pcall(fn(y) { return resume(c, y); }, x); }); print(resume(c, 1)); print(failed());", "7 true"),
		done("local c = nil; local d = nil; c = co(fn(x) { return resume(d, x); }); d = co(fn(x) { return pcall(fn(y) { return resume(c, y); }, x); }); print(resume(c, 1));", "7"),
		ends("local c = co(fn(x) { error(x); return 0; }); pcall(fn(x) { return resume(c, x); }, 1); resume(c, 2);", "", impl.ErrDead),
		ends("resume(nil);", "", impl.ErrType),
		ends("state(5);", "", impl.ErrType),
		ends("co(print);", "", impl.ErrCall),
		ends("co();", "", impl.ErrCall),
		// Nobody resumed the Top; a function in it neither.
		done("print(pcall(fn(x) { return yield(x); }, 1)); print(failed());", "7 true"),
		// A coroutine has a stack of its own.
		done("local d = nil; d = fn(n) { if n == 0 { return yield(5); } return d(n - 1); }; local c = co(d); print(resume(c, 9)); local e = co(d); print(resume(e, 9)); print(resume(c, 1)); print(resume(e, 2));", "5 5 1 2"),
	)
}

func TestProgramsThatPrintTooMuch(t *testing.T) {
	many := func(n int) string {
		return fmt.Sprintf("local i = 0; while i < %d { i = i + 1; print(1); }", n)
	}
	checkActs(t,
		done(many(199), ones(199)),
		done(many(200), ones(200)),
		ends(many(201), ones(200), impl.ErrOut),
		ends("print(pcall(fn(n) { "+many(201)+" return 0; }, 0));", ones(200), impl.ErrOut),
		done("pcall(fn(n) { "+many(201)+" return 0; }, 0); local x = failed(); if x { x = nil; } else { error(1); }", ones(200)),
	)
}

// Room that lacks is an error as any other: what was in use by it may be gone then.
func TestProgramsThatNeedRoom(t *testing.T) {
	hoard := "local l = nil; while true { l = {l}; }"
	for _, semi := range []int{256, 300, 400, 700} {
		m := checkAct(t, ends(hoard, "", impl.ErrMemory), semi)
		if !m.Short || m.Deep {
			t.Error("short", m.Short, m.Deep)
		}
		m = checkAct(t, done("print(pcall(fn(x) { "+hoard+" return 0; }, 0)); print(failed()); local t = {1, 2}; print(#t);", "5 true 2"), semi)
		if !m.Short {
			t.Error("short", m.Short)
		}
	}
	// What is not in use any more makes room, again and again.
	m := checkAct(t, done("local i = 0; while i < 60 { i = i + 1; local t = {i, {i}}; } print(i);", "60"), 300)
	if m.Short {
		t.Error("short")
	}
}
