package tests

import (
	"fmt"
	"slices"
	"testing"

	"loop.example/g00101/impl"
)

// An error that is caught takes nothing else with it: what was printed, what was set and who called are as they were.
func TestCaughtErrorsInCompany(t *testing.T) {
	t.Parallel()
	change := `local t = {1, 2}; local n = 5; local f = fn(x) { print("in"); t[1] = 10; t.k = "new"; n = n + x; local g = fn(y) { error({y}); return 0; }; return 1 + g(x); }; `
	checkAllInCompany(t, 400,
		done(change+`print("ahead"); print(failed()); local e = pcall(f, 7); print(failed()); print(e[1]); print(t[1]); print(t[2]); print(t.k); print(n); print(#t);`,
			"ahead false in true 7 10 2 new 12 2"),
		// What the caller was reckoning goes on behind it.
		done(change+`local a = {n, 10 + pcall(f, 2)[1], n}; print(a[1]); print(a[2]); print(a[3]); print(failed());`, "in 5 12 7 true"),
		// The locals of the frame that called, and of one above it.
		done(`local h = fn(a, b) { local c = a + b; local e = pcall(fn(x) { local a = 100; local b = 200; error(a + b + x); return 0; }, c); print(a); print(b); print(c); return e; }; print(h(1, 2)); print(h(3, 4));`,
			"1 2 3 303 3 4 7 307"),
		// Boxes that were written into ahead of the error have it.
		done(`local n = 0; local up = fn(x) { n = n + x; if 3 < n { error(n); } return n; }; print(pcall(up, 1)); print(failed()); print(pcall(up, 3)); print(failed()); print(pcall(up, -4)); print(failed()); print(n);`,
			"1 false 4 true 0 false 0"),
		// Errors of the machine, of each kind that a small program can raise.
		done(`print(pcall(fn(x) { return x + nil; }, 1)); print(pcall(fn(x) { return 1 / x; }, 0)); print(pcall(fn(x) { local t = {}; t[x] = 1; return 0; })); print(pcall(fn(x) { return x(1); }, 5)); print(pcall(fn(x) { return resume(x, 1); }, 5)); print(pcall(fn(x) { return yield(x); }, 1)); print(failed());`,
			"1 2 3 6 1 7 true"),
		// pcall within pcall: only the inner frames are gone.
		done(`local t = {}; print(pcall(fn(x) { t.a = x; local e = pcall(fn(y) { t.b = y; error({y, t}); return 0; }, x + 1); print(failed()); print(e[2] == t); print(t.b); return e[1] + x; }, 1)); print(failed()); print(t.a);`,
			"true true 2 3 false 1"),
		done(`print(pcall(fn(x) { pcall(fn(y) { error("inner"); return 0; }, 1); print(failed()); error("outer"); return 0; }, 1)); print(failed());`, "true outer true"),
		// Who returns well tells so, whatever failed ahead of it.
		done(`pcall(fn(x) { error(x); return 0; }, 1); print(failed()); pcall(fn(x) { return x; }, 1); print(failed());`, "true false"),
		// Functions that were not called by pcall return between: they tell nothing of it.
		done(`local f = fn(x) { return x; }; pcall(fn(x) { error(x); return 0; }, 1); print(f(2)); f(f(3)); print(failed()); pcall(f, 1); f(1); print(failed());`, "2 true false"),
		// What nobody catches.
		ends(change+`print("ahead"); pcall(f, 1); print(t[1]); error(n);`, "ahead in 10", 6),
		act{change + "f(1);", "in", impl.MachError, impl.Val{Tag: impl.TTab}},
	)
	deep := `local d = nil; local n = 0; d = fn(x) { n = n + 1; return 1 + d(x); }; print(pcall(d, 0)); print(failed()); print(n); print(pcall(d, 0)); print(n);`
	m := checkInCompany(t, done(deep, "4 true 10 4 20"), 400)
	if !m.Deep || m.Short {
		t.Error("deep", m.Deep, m.Short)
	}
}

// stackTold tells what the coroutine that runs has on its stack, from the bottom on: things by their serials, or their bytes.
func stackTold(m impl.Machine) []string {
	at := m.Roots[0].N
	var list []string
	for i := range int(m.Words[at+2]) {
		v, _ := impl.GetVal(m.Words, at+7+2*i)
		if !impl.IsRef(v) {
			list = append(list, fmt.Sprint(v.Tag, ":", v.N))
			continue
		}
		to, moved := impl.Forwarded(m.Words[v.N])
		if !moved {
			to = v.N
		}
		h, _ := impl.ReadHead(m.Words[to])
		list = append(list, fmt.Sprint(h, m.Words[to+1]))
	}
	return list
}

// From the step that calls by pcall to the step behind which it is caught: the stack of the caller, value by value.
func TestFramesBelowACaughtError(t *testing.T) {
	text := `local a = 1; local s = "text"; local t = {a}; local u = fn(x) { return x + a; };
print(u(2) + pcall(fn(x) { local p = {x}; local q = fn(y) { error(y); return 0; }; return q(x) + p[1]; }, 30));`
	last := hosted(t, text, 400, runs(4000)).Steps
	begun, ended := 0, 0
	for steps := range last {
		// Its stack is empty when it is over.
		m := hosted(t, text, 400, runs(steps))
		if begun == 0 && impl.DeepOf(m) == 2 && m.Words[m.Roots[0].N+7+2*(int(m.Words[m.Roots[0].N+3])-2)+1]%2 == 1 {
			begun = steps
		}
		if ended == 0 && m.Failed {
			ended = steps
		}
	}
	if begun == 0 || ended-begun < 10 {
		t.Fatal("begun", begun, "ended", ended)
	}
	ahead := stackTold(hosted(t, text, 400, runs(begun-1)))
	below := ahead[:len(ahead)-5] // two links, pcall and two arguments
	for name, company := range companies() {
		inCompany(begun, ended, company, func(list []impl.Act) {
			m := hosted(t, text, 400, list...)
			behind := stackTold(m)
			if !m.Failed || impl.DeepOf(m) != 1 || !slices.Equal(behind, append(slices.Clone(below), fmt.Sprint(impl.TInt, ":30"))) {
				t.Fatalf("%s: behind it stands\n%v\nahead of it stood\n%v", name, behind, below)
			}
		})
	}
	if m := hosted(t, text, 400, runs(4000)); m.State != impl.MachDone || m.Out[0] != "33" {
		t.Error(m.State, m.Out)
	}
}
