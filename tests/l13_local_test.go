package tests

import (
	"fmt"
	"slices"
	"strings"
	"testing"

	"loop.example/g00101/impl"
)

// checkMeant: a program means just this, and is run so, unless it needs more of a machine than there is.
func checkMeant(t *testing.T, list ...act) {
	t.Helper()
	for _, a := range list {
		tree := treeOf(t, a.text)
		told := meaning(t, tree, impl.MaxFuel)
		if told.State != a.state || told.Error != a.err || !slices.Equal(told.Out, strings.Fields(a.out)) {
			t.Errorf("%s\nmeans %+v, want %d %v %q", a.text, told, a.state, a.err, a.out)
			continue
		}
		checkByThinker(t, tree, impl.MaxFuel)
		checkRan(t, tree, impl.MaxSemi)
	}
}

func TestMeantLocalsOfOneName(t *testing.T) {
	checkMeant(t,
		// In one block: each has a place of its own, and its value is reckoned ahead of it.
		done("local a = 1; local a = a + 1; print(a); a = a + 1; print(a); local a = a * 10; print(a);", "2 3 30"),
		done("local a = 1; local f = fn() { return a; }; local a = 2; local g = fn() { return a; }; a = 3; print(f()); print(g()); print(a);", "1 3 3"),
		done("local a = 1; local set = fn(v) { a = v; }; local a = 2; set(9); print(a); local get = fn() { return a; }; set(8); print(get());", "2 2"),
		done("local a = 1; local a = fn() { return a; }; print(a()); a = 5; print(a);", "1 5"),
		// In blocks within: what they declare is gone behind them, what they change is not.
		done("local a = 1; if true { print(a); a = 2; local a = 3; print(a); a = 4; } print(a);", "1 3 2"),
		done("local a = 1; if false { } else { local a = a + 1; if a { local a = a + 1; print(a); } print(a); } print(a);", "3 2 1"),
		done("local a = 0; local n = 0; while n < 3 { n = n + 1; local a = a + n; print(a); a = 100; } print(a);", "1 2 3 0"),
		done("local a = 2; while a { local b = a; local a = nil; print(b); print(a); if b == 1 { return 0; } b = 1; return 0; }", "2 nil"),
		// What is asked of a loop sees nothing of its block.
		done("local go = true; local n = 0; while go { n = n + 1; local go = true; if n == 3 { return print(n); } if n == 2 { go = false; } }", "3"),
		done("local go = 1; while go { local was = go; go = nil; local go = 7; print(was); print(go); } print(go);", "1 7 nil"),
		// Parameters, and those of one name: the last one is seen.
		done("local a = 1; local f = fn(a) { print(a); a = 5; local a = a + 1; print(a); if a { local a = 9; } return a; }; print(f(3)); print(a);", "3 6 6 1"),
		done("local f = fn(a, a) { print(a); return fn() { a = a + 1; return a; }; }; local g = f(1, 2); print(g()); print(g()); print(f(1));", "2 3 4 nil fn:5"),
		done("local f = fn(a, b, a) { a = b; return a; }; print(f(1, 2, 3)); print(f(1)); print((fn(a, b, a) { return a; })(1, 2, 3));", "2 nil 3"),
		done("local f = fn(f) { return f; }; print(f(1)); print(f(f) == f);", "1 true"),
		// Names of the library.
		done("local print = print; print(1); local tostr = 5; print(tostr); if true { local type = fn(x) { return x; }; print(type(2)); } print(type(2));", "1 5 2 int"),
		done("local p = print; local print = fn(x) { p(x); p(x); }; print(1); local print = p; print(2);", "1 1 2"),
		done("local co = 1; local resume = fn(yield) { return yield + co; }; print(resume(2)); local yield = co; print(yield);", "3 1"),
		ends("local print = 1; print(2);", "", impl.ErrCall),
		// Case tells names apart.
		done("local a = 1; local A = 2; a = 3; print(a); print(A);", "3 2"),
	)
}

// A local that is done many times has a new place each time; functions keep those that they saw.
func TestMeantPlacesOfLoops(t *testing.T) {
	checkMeant(t,
		done("local t = {}; local i = 0; while i < 3 { i = i + 1; local j = i; t[i] = fn() { j = j + 10; return j; }; } print(t[1]()); print(t[1]()); print(t[2]()); print(t[3]()); print(t[1]());", "11 21 12 13 31"),
		// Two functions of one time share it, those of another time do not.
		done("local t = {}; local i = 0; while i < 2 { i = i + 1; local j = 0; t[i] = {fn() { j = j + 1; }, fn() { return j; }}; } t[1][1](); t[1][1](); t[2][1](); print(t[1][2]()); print(t[2][2]());", "2 1"),
		// The counter is one place for all.
		done("local t = {}; local i = 0; while i < 3 { i = i + 1; t[i] = fn() { return i; }; } print(t[1]()); i = 7; print(t[3]());", "3 7"),
		// What the block does behind the function is seen in it; what it does the next time is not.
		done("local f = nil; local i = 0; while i < 3 { i = i + 1; local j = i; if i == 2 { f = fn() { return j; }; } j = j * 100; } print(f());", "200"),
		// The place of the time ahead is kept while the next one begins.
		done("local last = fn() { return 0; }; local i = 0; while i < 3 { i = i + 1; local v = last() + i; local own = fn() { v = v + 1; return v; }; last = own; } print(last()); print(last());", "9 10"),
		// Loops in loops.
		done("local t = {}; local n = 0; local i = 0; while i < 2 { i = i + 1; local a = i; local j = 0; while j < 2 { j = j + 1; local b = j; n = n + 1; t[n] = fn() { a = a + 1; b = b + 10; return a * 100 + b; }; } } print(t[1]()); print(t[2]()); print(t[3]()); print(t[4]()); print(t[1]());", "211 312 311 412 421"),
		// Parameters have a new place each time that the function is called, also by itself.
		done("local make = fn(n) { return fn() { n = n + 1; return n; }; }; local a = make(0); local b = make(10); print(a()); print(b()); print(a()); print(b());", "1 11 2 12"),
		done("local t = {}; local f = nil; f = fn(n) { local m = n * 10; t[n] = fn() { m = m + 1; return n + m; }; if n < 3 { f(n + 1); } m = m + 1; }; f(1); print(t[1]()); print(t[2]()); print(t[3]()); print(t[1]());", "13 24 35 14"),
		done("local f = nil; f = fn(n) { local mine = n; if 0 < n { f(n - 1); } return mine; }; print(f(3));", "3"),
	)
}

func TestMeantFunctionsWithinFunctions(t *testing.T) {
	checkMeant(t,
		done("local a = 1; local f = fn(b) { return fn(c) { return fn(d) { a = a + b; b = b + c; c = c + d; return a * 10000 + b * 100 + c; }; }; }; local g = f(2)(3); print(g(4)); print(g(4)); print(a);", "30507 81211 8"),
		// One function between that does not name it keeps it for the one within.
		done("local a = 5; local f = fn() { return fn() { return fn() { a = a + 1; return a; }; }; }; print(f()()()); print(f()()()); print(a);", "6 7 7"),
		// It is kept, whoever calls: what is seen where a function is called does not matter.
		done("local a = 1; local f = fn() { return a; }; local g = fn(a) { return f(); }; print(g(2)); print((fn() { local a = 3; return f(); })());", "1 1"),
		done("local box = fn(v) { return {get = fn() { return v; }, set = fn(x) { v = x; }}; }; local p = box(1); local q = box(2); p.set(9); print(p.get()); print(q.get()); q.set(p); print(q.get().get());", "9 2 9"),
		// A local that a function within changes, and its own function; in turns.
		done("local n = 0; local up = fn() { n = n + 1; return n; }; n = n + up() + n; print(n); print(n + up() + n); print(up() + n);", "2 8 8"),
		done("local a = 1; print(a + (fn() { a = 10; return a; })() + a); local t = {a, (fn() { a = 20; return a; })(), a}; print(t[1]); print(t[2]); print(t[3]);", "21 10 20 20"),
		// What is called is reckoned ahead of the arguments.
		done("local f = fn(x) { return x; }; print(f((fn() { f = fn(x) { return x + 1; }; return 5; })())); print(f(5));", "5 6"),
		done("local a = 1; local t = {1, 2}; t[a] = (fn() { a = 2; t = {}; return 7; })(); print(t[1]); print(t[a]);", "nil nil"),
		// Many locals and many that are kept: as many as there may be.
		done("local a = 1; local b = 2; local c = 3; local d = 4; local e = 5; local f = 6; local g = 7; local h = 8; local i = 9; local j = 10; local k = 11; local l = 12; local s = fn() { return fn() { l = l + a; return a+b+c+d+e+f+g+h+i+j+k+l; }; }; print(s()()); a = 2; print(s()());", "79 82"),
		// Functions that were made of one, and functions that are one.
		done("local make = fn() { return fn() { }; }; local f = make(); local g = f; print(f == g); print(f == make()); print(make == make); print(f ~= g);", "true false true false"),
		done("local twice = fn(f) { return fn(x) { return f(f(x)); }; }; local add = fn(x) { return x + 1; }; print(twice(twice(add))(0)); print(twice(twice)(add)(0));", "4 4"),
	)
}

// Parameters that lack an argument are nothing; arguments too many are reckoned, and gone.
func TestMeantArguments(t *testing.T) {
	checkMeant(t,
		done("local f = fn(a, b) { print(a); print(b); }; f(); f(1); f(1, 2); f(1, 2, 3);", "nil nil 1 nil 1 2 1 2"),
		done("local f = fn() { }; print(f(print(1), print(2)));", "1 2 nil"),
		done("local f = fn(a) { local b = nil; print(b); b = a; return b; }; print(f(1, 2, 3)); print(f());", "nil 1 nil nil"),
		ends("local f = fn() { print(1); }; f(1 / 0);", "", impl.ErrZero),
		// The library takes what it needs; what lacks is nothing.
		done("print(); print(1, 2); print(tostr()); print(tostr(1, 2)); print(type()); print(next({5}, nil, 3)); print(next({5})); print(failed(1, 2));", "nil 1 nil 1 nil 1 1 false"),
		done("print(pcall(fn(a, b) { print(a); print(b); return 0; }, 1, 2)); print(pcall(fn(a) { return a; })); print(pcall(fn() { return 3; }, 4));", "1 nil 0 nil 3"),
		// Nothing is given back where nothing is returned.
		done("print((fn() { })()); print((fn() { local a = 1; })()); print((fn() { return nil; })()); print((fn(x) { if x { return 1; } })(false)); print((fn(x) { while x { return 2; } })(3));", "nil nil nil nil 2"),
	)
	twenty := namesUpTo(20)
	names := strings.Fields(twenty)
	if len(names) != 20 {
		t.Fatal("names", names)
	}
	text := fmt.Sprintf("local f = fn(%s) { return %s; }; ", strings.Join(names, ", "), strings.Join(names, " + "))
	checkMeant(t, done(text+"print(f(1, 2, 3, 4, 5, 6, 7, 8, 9, 10, 11, 12, 13, 14, 15, 16, 17, 18, 19, 20));", "210"))
	checkMeant(t, ends(text+"print(f(1, 2, 3, 4, 5, 6, 7, 8, 9, 10, 11, 12, 13, 14, 15, 16, 17, 18, 19));", "", impl.ErrType))
	forty := strings.TrimSuffix(strings.Repeat("7, ", 40), ", ")
	checkMeant(t, done("print((fn(a, b) { return a + b; })("+forty+"));", "14"), done("print("+forty+");", "7"))
}
