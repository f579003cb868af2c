package tests

import (
	"fmt"
	"strings"
	"testing"

	"loop.example/g00101/impl"
)

// raises is a program whose only value can't be reckoned.
func raises(value string, code int) act { return ends("print("+value+");", "", code) }

func prints(value string, out string) act { return done("print("+value+");", out) }

func TestMeantOperations(t *testing.T) {
	checkMeant(t,
		prints("7 / -2", "-3"), prints("-7 / 2", "-3"), prints("-7 % 2", "-1"), prints("7 % -2", "1"), prints("1 - 2 * 3", "-5"), prints("2 + 3", "5"),
		// Numbers wrap round.
		done("local m = 999999999999999; local i = 0; local n = 1; while i < 63 { i = i + 1; n = n * 2; } print(n); print(n - 1); print(-n); print(n + n); print(n / -1); print(n % -1); print(n - 1 + 1); print(m * m);",
			"-9223372036854775808 9223372036854775807 -9223372036854775808 0 -9223372036854775808 0 -9223372036854775808 "+fmt.Sprint(wrapped(999999999999999))),
		raises("1 / 0", impl.ErrZero), raises("1 % 0", impl.ErrZero), raises("0 / 0", impl.ErrZero), raises(`"a" / 0`, impl.ErrType), raises("nil % 0", impl.ErrType),
		prints(`"a" .. "b" .. ""`, "ab"), prints(`#("" .. "")`, "0"), raises(`"a" .. 1`, impl.ErrType), raises("1 .. 2", impl.ErrType), raises(`"a" + "b"`, impl.ErrType),
		prints(`"a" < "b"`, "true"), prints(`"b" < "a"`, "false"), prints(`"" < "a"`, "true"), prints(`"a" < "a"`, "false"), prints(`"a" <= "a"`, "true"), prints(`"ab" <= "a"`, "false"), prints(`"Z" < "a"`, "true"),
		prints("1 < 2", "true"), prints("2 < 2", "false"), prints("2 <= 2", "true"), prints("-1 < 0", "true"), raises(`1 < "2"`, impl.ErrType), raises("true < true", impl.ErrType), raises("{} <= {}", impl.ErrType),
		// By truth: all but nothing and no are true.
		prints("not nil", "true"), prints("not false", "true"), prints("not 0", "false"), prints(`not ""`, "false"), prints("not {}", "false"), prints("not print", "false"),
		prints("nil and 1", "nil"), prints("false and 1", "false"), prints("0 and 1", "1"), prints("nil or 1", "1"), prints("false or nil", "nil"), prints("0 or 1", "0"), prints("1 and nil or 2", "2"),
		done("print(nil and error(1)); print(1 or error(1)); print(false or print(2));", "nil 1 2 nil"),
		prints("- -3", "3"), prints("-(1 - 2)", "1"), raises("-nil", impl.ErrType), raises(`-"1"`, impl.ErrType), raises("-{}", impl.ErrType),
		prints(`#"abc"`, "3"), prints("#{}", "0"), prints("#{1, 2, nil, 4}", "2"), prints("#{nil, 2}", "0"), raises("#nil", impl.ErrType), raises("#5", impl.ErrType), raises("#print", impl.ErrType),
	)
}

// wrapped is a square as the language reckons it.
func wrapped(n int) int { return n * n }

// Both are reckoned ahead of an operation, whatever comes of it.
func TestMeantOrders(t *testing.T) {
	say := "local s = fn(x) { print(x); return x; }; "
	checkMeant(t,
		done(say+"print(s(1) + s(2) * s(3));", "1 2 3 7"),
		ends(say+"print(s(nil) + s(2));", "nil 2", impl.ErrType),
		ends(say+"print(s(1) / s(0));", "1 0", impl.ErrZero),
		ends(say+"print(s(nil)[s(2)]);", "nil 2", impl.ErrType),
		ends(say+"local t = s(nil); t[s(1)] = s(2);", "nil 1 2", impl.ErrType),
		ends(say+"local t = {}; t[s(nil)] = s(2);", "nil 2", impl.ErrKey),
		ends(say+"s(nil)(s(1), s(2));", "nil 1 2", impl.ErrCall),
		ends(say+"local t = {s(1), [s(nil)] = s(2), s(3)};", "1 nil 2", impl.ErrKey),
		done(say+"local t = {s(1), [s(2)] = s(3), x = s(4), s(5)}; print(t[1]); print(t[2]); print(t.x); print(#t);", "1 2 3 4 5 1 5 4 2"),
	)
}

// valueTexts are values of each type, each with a name for those that are made once.
func valueTexts() []string {
	return []string{"nil", "false", "true", "0", "1", "-7", "m", `""`, `"a"`, `"ab"`, "t", "u", "f", "g", "print", "tostr"}
}

const namedValues = "local m = 999999999999999; local t = {1, 2, x = 3}; local u = {}; local f = fn(x) { return x; }; local g = fn() { }; "

// Each operation with values of each type: as the model has it, and as it is run.
func TestMeantOperationsOfEachType(t *testing.T) {
	states := map[string]int{}
	check := func(e string) {
		tree := treeOf(t, namedValues+"print("+e+");")
		checkByThinker(t, tree, impl.MaxFuel)
		if !checkRan(t, tree, impl.MaxSemi) {
			t.Error("not run:", e)
		}
		states[fmt.Sprint(meaning(t, tree, impl.MaxFuel).Error)]++
	}
	for _, a := range valueTexts() {
		for _, b := range valueTexts() {
			for _, op := range append(opMarks[1:], "and", "or") {
				check("(" + a + ") " + op + " (" + b + ")")
			}
			check("(" + a + ")[" + b + "]")
		}
		for _, turn := range turnWords[1:] {
			check(turn + " (" + a + ")")
		}
		for _, call := range []string{"tostr(%s)", "type(%s)", "next(%s)", "next(t, %s)", "pcall(%s)", "pcall(f, %s)", "pcall(error, %s)", "state(%s)", "failed(%s)", "error(%s)", "(%s)(1)", "{%s}", "{[1] = %s}", "({[%[1]s] = 5})[%[1]s]"} {
			check(fmt.Sprintf(call, "("+a+")"))
		}
	}
	for _, code := range []int{impl.ErrType, impl.ErrZero, impl.ErrKey, impl.ErrCall} {
		if states[fmt.Sprint(num(code))] < 3 {
			t.Error("the error", code, "comes", states[fmt.Sprint(num(code))], "times")
		}
	}
}

// What is the same: texts of the same bytes; of what is made, that thing alone.
func TestMeantSameness(t *testing.T) {
	values := valueTexts()
	for i, a := range values {
		for j, b := range values {
			checkMeant(t, done(namedValues+"print(("+a+") == ("+b+")); print(("+a+") ~= ("+b+"));", fmt.Sprint(i == j, i != j)))
		}
	}
	checkMeant(t,
		done(`print("a" .. "b" == "ab"); print({} == {}); print(fn() { } == fn() { }); print(1 == true); print("1" == 1); print(nil == false); print(tostr(1) == "1");`, "true false false false false false true"),
	)
}

func TestMeantTexts(t *testing.T) {
	double := `local s = "0123456789"; s = s .. s; s = s .. s; s = s .. s; s = s .. s; `
	checkMeant(t,
		done(double+`print(#s); print(#(s .. "")); print(#("" .. s));`, "160 160 160"),
		ends(double+`print(#(s .. "x"));`, "", impl.ErrLong),
		ends(double+`print("x" .. s);`, "", impl.ErrLong),
		ends(double+`print(s .. s);`, "", impl.ErrLong),
		done(double+`print(pcall(fn(x) { return s .. x; }, "y")); print(failed()); print(#s);`, "8 true 160"),
		done(double+`local t = {}; t[s] = 1; print(t[s]); print(t[tostr(s)]); print(tostr(s) == s); print(#tostr(s));`, "1 1 true 160"),
	)
}

func TestMeantTables(t *testing.T) {
	walk := "local k = next(t, nil); while k ~= nil { print(k); k = next(t, k); }"
	checkMeant(t,
		done("local t = {5, 6, x = 7, [8] = 9}; print(t[1]); print(t[2]); print(t.x); print(t[8]); print(t[3]); print(t[nil]); print(#t);", "5 6 7 9 nil nil 2"),
		done("local t = {}; t[true] = 1; t[false] = 2; t[print] = 3; t[t] = 4; t[-1] = 5; t[fn() { }] = 6; print(t[true]); print(t[false]); print(t[print]); print(t[t]); print(t[-1]); print(t[fn() { }]);", "1 2 3 4 5 nil"),
		done(`local t = {}; t["a" .. "b"] = 1; print(t.ab); t.ab = nil; print(t.ab); print(next(t));`, "1 nil nil"),
		done("local t = {x = 1, x = 2, [1] = 3, 4}; print(t.x); print(t[1]);", "2 4"),
		done("local t = {1, 2, 3}; t[2] = nil; print(#t); t[2] = 5; print(#t);", "1 3"),
		// In order of their entries: of numbers by what is left, of texts by their bytes, of things by their serials.
		done("local t = {10, 20, 30}; "+walk, "1 2 3"),
		done("local t = {}; t[7] = 1; t[3] = 1; t[2] = 1; "+walk, "3 2 7"),
		done("local t = {}; t[3] = 1; t[7] = 1; t[2] = 1; "+walk, "7 2 3"),
		done("local t = {}; t[3] = 1; t[7] = 1; t[2] = 1; t[11] = 1; "+walk, "2 3 11 7"),
		done("local a = {}; local b = {}; local t = {}; t[b] = 1; t[a] = 2; t[t] = 3; "+walk, "table:4 table:5 table:3"),
		done("local t = {}; t[true] = 1; t[false] = 1; t[print] = 1; "+walk, "false true lib:1"),
		// What is set to nothing keeps its entry, until there is a new block.
		done("local t = {1, 2, 3}; t[1] = nil; print(next(t)); print(next(t, 1)); t[2] = nil; print(next(t, 1)); print(next(t, 3)); t[4] = 4; print(next(t)); print(pcall(fn() { return next(t, 1); }));", "2 2 3 nil 4 3"),
		done("local t = {1, 2, 3, x = 4, y = 5, [9] = 6}; local n = 0; local k = next(t, nil); while k { t[k] = nil; n = n + 1; k = next(t, k); } print(n); print(next(t, nil)); print(next(t, 3)); print(#t);", "6 nil nil 0"),
		done("local t = {}; t[1] = nil; print(next(t)); t.x = nil; print(#t);", "nil 0"),
		ends("local t = {1}; next(t, 2);", "", impl.ErrKey), ends("next({}, false);", "", impl.ErrKey), ends(`next({x = 1}, "y");`, "", impl.ErrKey), ends("next(nil);", "", impl.ErrType), ends("next(print, 1);", "", impl.ErrType),
		ends("local t = {}; t[nil] = 1;", "", impl.ErrKey), ends("local t = {}; t[nil] = nil;", "", impl.ErrKey), ends("local t = {[nil] = 1};", "", impl.ErrKey),
		ends("local t = 5; t.x = 1;", "", impl.ErrType), ends("local t = nil; t[nil] = 1;", "", impl.ErrType), ends("local t = nil; print(t.x);", "", impl.ErrType), ends(`print(("x")[1]);`, "", impl.ErrType),
	)
}

// One key too many.
func TestMeantFullTables(t *testing.T) {
	fill := func(n int) string {
		return fmt.Sprintf("local t = {}; local i = 0; while i < %d { i = i + 1; t[i] = i; } print(#t); ", n)
	}
	checkMeant(t,
		done(fill(47), "47"), done(fill(48), "48"),
		ends(fill(49), "", impl.ErrFull),
		ends(fill(48)+"t.x = 1;", "48", impl.ErrFull),
		// What is there may be changed; nothing needs no room; what is gone makes some.
		done(fill(48)+"t[48] = 5; t[49] = nil; print(t[48]); print(t[49]); t[1] = nil; t.x = 7; print(t.x); print(t[2]); print(t[1]);", "48 5 nil 7 2 nil"),
		ends(fill(48)+"t[1] = nil; t.x = 7; t.y = 8;", "48", impl.ErrFull),
		done(fill(48)+"print(pcall(fn(x) { t[x] = 1; return 0; }, 49)); print(failed()); print(#t);", "48 9 true 48"),
		done(fill(48)+"i = 0; while i < 40 { i = i + 1; t[i] = nil; } t[100] = 1; local n = 0; local k = next(t); while k { n = n + 1; k = next(t, k); } print(n); print(t[48]);", "48 9 48"),
	)
	items := strings.TrimSuffix(strings.Repeat("1, ", 49), ", ")
	checkMeant(t, ends("local t = {"+items+"};", "", impl.ErrFull), done("print(#{"+strings.TrimPrefix(items, "1, ")+"});", "48"))
}

func TestMeantLibrary(t *testing.T) {
	checkMeant(t,
		done("print(nil); print(true); print(false); print(0); print(-12); print(print); print(state); print({}); print(fn() { });", "nil true false 0 -12 lib:1 lib:11 table:3 fn:4"),
		done(`print(type(nil)); print(type(true)); print(type(0)); print(type("")); print(type({})); print(type(fn() { })); print(type(type)); print(type(type(1)));`, "nil bool int text table fn fn text"),
		done(`print(tostr(5) .. tostr(nil) .. tostr(true) .. tostr("x") .. tostr(pcall)); print(#tostr(-10)); print(type(tostr(1)));`, "5niltruexlib:5 3 text"),
		done("local p = print; p(1); local t = {say = print}; t.say(2); (false or print)(3);", "1 2 3"),
		ends("state(nil);", "", impl.ErrType), ends("state({});", "", impl.ErrType), ends("state();", "", impl.ErrType),
		ends("pcall();", "", impl.ErrCall), ends("pcall(pcall, 1);", "", impl.ErrCall), ends("pcall({});", "", impl.ErrCall),
		ends("nil();", "", impl.ErrCall), ends(`("x")(1);`, "", impl.ErrCall), ends("({})();", "", impl.ErrCall), ends("(1)();", "", impl.ErrCall), ends("(true)();", "", impl.ErrCall),
	)
	if told := meaning(t, treeOf(t, `print("a b  c"); print("");`), 9); fmt.Sprintf("%q", told.Out) != `["a b  c" ""]` {
		t.Error("texts", told)
	}
}

func TestMeantErrors(t *testing.T) {
	checkMeant(t,
		// An error that nobody catches, with a value of each type.
		act{"error();", "", impl.MachError, impl.Val{}}, act{"error(nil);", "", impl.MachError, impl.Val{}},
		act{"error(true);", "", impl.MachError, yes()}, act{"error(false);", "", impl.MachError, impl.Val{Tag: impl.TBool}},
		ends("error(77);", "", 77), ends("error(-1);", "", -1), ends("error(0);", "", 0),
		act{`error("x");`, "", impl.MachError, impl.Val{Tag: impl.TStr}}, act{"error({1});", "", impl.MachError, impl.Val{Tag: impl.TTab}},
		act{"error(fn() { });", "", impl.MachError, impl.Val{Tag: impl.TFun}}, act{"error(error);", "", impl.MachError, impl.Val{Tag: impl.TLib, N: 6}},
		ends("print(1); print(1 / 0); print(2);", "1", impl.ErrZero),
		// Failed: no at first, yes behind what was caught, no behind a call that went well.
		done("print(failed()); print(pcall(fn(x) { return x; }, 3)); print(failed()); print(pcall(fn(x) { error(x); return 0; }, 4)); print(failed()); print(pcall(fn() { return 1; })); print(failed());", "false 3 false 4 true 1 false"),
		done("print(pcall(fn(x) { return 1 / x; }, 0)); print(failed()); print(pcall(fn(x) { return 2; }, 0)); print(failed());", "2 true 2 false"),
		// pcall in pcall: the inner one catches, the outer one goes well; then the other way; then both.
		done("print(pcall(fn(x) { print(pcall(fn(y) { error(y); }, x + 1)); print(failed()); return 5; }, 1)); print(failed());", "2 true 5 false"),
		done("print(pcall(fn(x) { print(pcall(fn(y) { return y; }, x + 1)); print(failed()); error(6); }, 1)); print(failed());", "2 false 6 true"),
		done("print(pcall(fn(x) { pcall(fn(y) { error(8); }, 1); error(9); }, 1)); print(failed());", "9 true"),
		// Within what runs Failed is what it was.
		done("pcall(fn() { error(1); }); pcall(fn() { print(failed()); }); print(failed()); pcall(fn() { error(failed()); }); print(failed());", "true false true"),
		done("pcall(fn() { error(1); }); pcall(fn() { print(failed()); error(2); }); (fn() { print(failed()); })(); print(failed());", "true true true"),
		// What was called in between is gone with it, what it did is not; the rest of an expression goes on.
		done("local f = fn(n) { return 1 + (fn(m) { return 1 + (fn(k) { error(k); })(m); })(n); }; print(pcall(f, 7)); print(1 + 1);", "7 2"),
		done("local n = 0; pcall(fn(x) { n = 5; error(1); n = 6; }, 1); print(n);", "5"),
		done("print(10 + pcall(fn(x) { error(x); }, 5)); local t = {1, pcall(fn() { return {2, {3, 1 / 0}}; }), 4}; print(t[1]); print(t[2]); print(t[3]);", "15 1 2 4"),
		done("local i = 0; while i < 2 { i = i + 1; pcall(fn() { while true { while true { error(1); } } }); print(i); }", "1 2"),
		// The value that is raised is that thing.
		done("local t = {}; print(pcall(fn() { error(t); }) == t);", "true"),
		// pcall of what is no function is an error of who calls it.
		ends("local t = {}; print(pcall(fn() { error(t); }) == t); pcall(error, t);", "true", impl.ErrCall),
		done("print(pcall(fn(f) { return pcall(f, 1); }, print)); print(failed());", "6 true"),
		done("print(pcall(fn() { return pcall(nil); })); print(failed());", "6 true"),
		// The machine's own errors, caught.
		done(`print(pcall(fn() { return nil + 1; })); print(pcall(fn() { return 1 % 0; })); print(pcall(fn() { return {[nil] = 1}; })); print(pcall(fn() { return nil(); })); print(pcall(fn() { return next({}, 1); }));`, "1 2 3 6 3"),
	)
}

// print at MaxOut texts, and one more.
func TestMeantPrintsTooMany(t *testing.T) {
	many := func(n int) string {
		return fmt.Sprintf("local i = 0; while i < %d { i = i + 1; print(1); }", n)
	}
	checkMeant(t,
		done(many(199), ones(199)), done(many(200), ones(200)),
		ends(many(201), ones(200), impl.ErrOut),
		ends("print(pcall(fn() { "+many(201)+" }));", ones(200), impl.ErrOut),
		done("local e = pcall(fn() { "+many(201)+" }); if e ~= 10 { error(e); } if not failed() { error(1); }", ones(200)),
	)
	if impl.MaxOut != 200 {
		t.Error("MaxOut", impl.MaxOut)
	}
}

// Serials from 3 on, to tables and functions alike, in the order in which they are made.
func TestMeantSerials(t *testing.T) {
	checkMeant(t,
		done("print({}); print({}); print(fn() { }); print({});", "table:3 table:4 fn:5 table:6"),
		// A table ahead of its fields.
		done("local t = {{}, x = {{}}, [fn() { }] = fn() { }, {}}; print(t); print(t[1]); print(t.x); print(t.x[1]); print(t[2]); print({});", "table:3 table:4 table:5 table:6 table:9 table:10"),
		done("local t = {fn() { return {}; }}; print(t); print(t[1]); print(t[1]()); print(t[1]()); print(tostr(t[1]));", "table:3 fn:4 table:5 table:6 fn:4"),
		// Each time that it is made, not where it is written.
		done("local i = 0; while i < 3 { i = i + 1; print(fn() { }); } print({});", "fn:3 fn:4 fn:5 table:6"),
		done("local f = fn() { return fn() { }; }; print(f); print(f()); print(f()); print(f);", "fn:3 fn:4 fn:5 fn:3"),
		// Operands, arguments and what is called, from the left.
		done("local f = fn(a, b) { print(a); print(b); return {}; }; print(f({}, fn() { })); print((fn() { return {}; })({}));", "table:4 fn:5 table:6 table:9"),
		done("local t = {}; t[{}] = {}; print(next(t)); print(t[next(t)]); print({});", "table:4 table:5 table:6"),
		// What is not reckoned is not made; what is thrown away was.
		done("local a = nil and {}; local b = 1 or {}; if false { local c = {}; } {}.x = 1; print({});", "table:4"),
		done("pcall(fn() { local t = {{}, {1 / 0}}; }); print({});", "table:7"),
		// Texts, library functions and locals that are kept have none.
		done(`local a = "x" .. "y"; local f = fn() { return a; }; local g = print; print(f); print({});`, "fn:3 table:4"),
	)
}
