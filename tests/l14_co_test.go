package tests

import (
	"fmt"
	"slices"
	"strings"
	"testing"

	"loop.example/g00101/impl"
)

// Coroutines go on where they were: what they yield comes in order, they are over in their time, and dead then.
func TestCoroutinesInCompany(t *testing.T) {
	t.Parallel()
	dead := `print(state(c)); print(pcall(fn(x) { return resume(c, x); }, 1)); print(failed()); print(state(c));`
	checkAllInCompany(t, 700,
		done(`local c = co(fn(n) { local i = 0; while i < n { i = i + 1; yield(i * i); } return nil; }); print(state(c)); local v = resume(c, 6); while v { print(v); print(state(c)); v = resume(c); } `+dead,
			"0 1 1 4 1 9 1 16 1 25 1 36 1 3 7 true 3"),
		// What is handed in comes where it was left, and locals, boxes and tables of it are as they were.
		done(`local c = co(fn(x) { local t = {x}; local sum = x; local add = fn(y) { sum = sum + y; t[#t + 1] = y; return sum; }; while #t < 5 { x = yield(add(0 + x)); } return t; }); print(resume(c, 1)); print(resume(c, 10)); print(resume(c, 100)); print(resume(c, 1000)); local t = resume(c, 5); print(#t); print(t[1]); print(t[2]); print(t[5]); `+dead,
			"2 12 112 1112 5 1 1 1000 3 7 true 3"),
		// From deep within functions of its own.
		done(`local each = nil; each = fn(n) { if n == 0 { return 0; } yield(n); return n + each(n - 1); }; local c = co(each); print(resume(c, 4)); print(resume(c)); print(resume(c)); print(resume(c)); print(resume(c)); `+dead,
			"4 3 2 1 10 3 7 true 3"),
		// Within a pcall of its own that holds over what it yields.
		done(`local c = co(fn(x) { local e = pcall(fn(y) { yield(y); yield(y + 1); error({y}); return 0; }, x); print(failed()); yield(e[1] + 100); return "end"; }); print(resume(c, 5)); print(resume(c)); print(resume(c)); print(resume(c)); `+dead,
			"5 6 true 105 end 3 7 true 3"),
		// An error that leaves it: it is over, and who resumed it goes on where it was.
		done(`local c = co(fn(x) { yield(x); error(x + 1); return 0; }); local a = 40; print(resume(c, 1)); print(a + pcall(fn(x) { return resume(c, x); }, 0)); print(failed()); print(a); `+dead,
			"1 42 true 40 3 7 true 3"),
	)
	// Two and three that take turns: each waits, runs, yields and ends by itself.
	checkAllInCompany(t, 1200,
		done(`local make = fn(s) { return co(fn(n) { local i = 0; while i < n { i = i + 1; yield(s .. tostr(i)); } return s .. "end"; }); }; local a = make("a"); local b = make("b"); print(resume(a, 2)); print(resume(b, 3)); print(resume(a)); print(resume(b)); print(resume(a)); print(state(a)); print(resume(b)); print(state(b)); print(resume(b)); print(state(b));`,
			"a1 b1 a2 b2 aend 3 b3 1 bend 3"),
		done(`local d = co(fn(y) { print(y); y = yield(y + 1); print(y); return y + 1; }); local c = co(fn(x) { local z = resume(d, x * 10); print(state(d)); z = yield(z); z = resume(d, z * 10); print(state(d)); return z; }); print(resume(c, 1)); print(state(c)); print(state(d)); print(resume(c, 2)); print(state(c)); print(pcall(fn(x) { return resume(d, x); }, 0));`,
			"10 1 11 1 1 20 3 21 3 7"),
		// What is handed over lay on a stack that waited while a third argument was reckoned: the one may be gone over already, the other not.
		done(`local x = co(fn(v) { while true { v = yield(v[1]); } return 0; }); resume(x, {0}); local a = co(fn(n) { while n < 9 { print(resume(x, {n}, yield(n))); n = n + 1; } return "end"; }); print(resume(a, 7)); local v = resume(a); while v ~= "end" { print(v); v = resume(a); } print(state(x)); print(state(a));`,
			"7 7 8 8 1 3"),
		// What nobody has resumed any more is gone; what is held is not.
		done(`local i = 0; local t = {}; while i < 12 { i = i + 1; local c = co(fn(x) { yield(x); return 0; }); resume(c, i); t.last = c; } print(resume(t.last)); print(state(t.last));`, "0 3"),
	)
	// What ends within one: the error that nobody catches leaves all of them.
	checkInCompany(t, ends(`local c = co(fn(x) { print(x); yield(0); error(x + 70); return 0; }); resume(c, 7); print("on"); resume(c);`, "7 on", 77), 400)
}

// Resumed as often as there is fuel for, with flips between: the numbers come one by one, and none is missed.
func TestCoroutinesThatAreResumedOften(t *testing.T) {
	t.Parallel()
	text := `local c = co(fn(n) { local t = {n}; while t[1] < 190 { yield(t[1]); t = {t[1] + 1}; } return nil; }); local v = resume(c, 0); while v { print(v); v = resume(c); } print(state(c)); resume(c);`
	var want []string
	for i := range 190 {
		want = append(want, fmt.Sprint(i))
	}
	want = append(want, "3")
	for name, list := range map[string][]impl.Act{
		"plain":       repeatedActs(60, runs(4000)),
		"flipped":     slices.Repeat(acts(flips(), runs(331)), 30),
		"copied":      slices.Repeat(acts(flips(), runs(177), copies(1), runs(511), copies(1), runs(197)), 10),
		"collected":   slices.Repeat(acts(collects(), runs(293)), 30),
		"all of them": slices.Repeat(acts(flips(), runs(457), collects(), runs(311), flips(), copies(2), runs(991)), 8),
	} {
		for _, semi := range []int{330, 4000} {
			m := checkPlain(t, text, semi, list)
			if m.State != impl.MachError || m.Error != num(impl.ErrDead) || !slices.Equal(m.Out, want) {
				t.Errorf("%s in %d: state %d error %v out %q", name, semi, m.State, m.Error, strings.Join(m.Out, " "))
			}
		}
	}
}

// Statuses, at each step of a run: the same whatever is moved.
func TestStatusesInCompany(t *testing.T) {
	t.Parallel()
	text := `local d = co(fn(y) { yield(y); return y; }); local c = co(fn(x) { yield(x); resume(d, x); resume(d, x); return x; }); resume(c, 1); resume(c, 2); print(state(c));`
	last := hosted(t, text, 600, runs(4000))
	if last.State != impl.MachDone {
		t.Fatal(last.State, last.Error)
	}
	seen := map[string]bool{}
	for steps := range last.Steps + 1 {
		want := impl.Statuses(hosted(t, text, 600, runs(steps)))
		seen[fmt.Sprint(want)] = true
		for name, company := range companies() {
			got := impl.Statuses(hosted(t, text, 600, append(append(acts(runs(steps/2)), company...), runs(steps-steps/2))...))
			if !slices.Equal(got, want) {
				t.Fatalf("%s, behind %d steps: %v, want %v", name, steps, got, want)
			}
		}
	}
	// The first one, then d, then c.
	for _, line := range []string{"[2]", "[2 0]", "[2 0 0]", "[4 0 2]", "[2 0 1]", "[4 2 4]", "[4 1 2]", "[4 3 2]", "[2 3 3]"} {
		if !seen[line] {
			t.Error("never seen:", line)
		}
	}
}
