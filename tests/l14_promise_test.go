package tests

import (
	"math/rand"
	"slices"
	"strings"
	"testing"

	"loop.example/g00101/impl"
)

// checkTheSame: both tell the same, but for places.
func checkTheSame(t *testing.T, name string, got impl.Machine, want impl.Machine) {
	t.Helper()
	if !slices.Equal(got.Out, want.Out) || got.State != want.State || got.Error != want.Error || got.Steps != want.Steps {
		t.Fatalf("%s\ntells %q state %d error %v steps %d\nwant %q state %d error %v steps %d", name, got.Out, got.State, got.Error, got.Steps, want.Out, want.State, want.Error, want.Steps)
	}
	if got.Failed != want.Failed || got.Deep != want.Deep || got.Short != want.Short {
		t.Fatalf("%s\nfailed %v deep %v short %v\nwant %v %v %v", name, got.Failed, got.Deep, got.Short, want.Failed, want.Deep, want.Short)
	}
	a, one := impl.ShapeOf(got.Arena)
	b, two := impl.ShapeOf(want.Arena)
	if !one || !two || !impl.ShapeSame(a, b) {
		t.Fatalf("%s\nhas another shape:\n%v\nwant\n%v", name, a, b)
	}
	if !impl.ModuleSame(got.Module, want.Module) {
		t.Fatalf("%s\nhas another code", name)
	}
}

// checkPlain: with these acts a program tells what it tells with those alone that run.
func checkPlain(t *testing.T, text string, semi int, list []impl.Act) impl.Machine {
	t.Helper()
	got, want := hosted(t, text, semi, list...), hosted(t, text, semi, impl.Plain(list)...)
	checkTheSame(t, text, got, want)
	return got
}

// leastSemi is the smallest half in which a program can be booted.
func leastSemi(t *testing.T, text string) int {
	t.Helper()
	module := moduleOf(t, treeOf(t, text))
	for semi := range impl.MaxSemi + 1 {
		if _, ok := impl.Boot(module, semi); ok {
			return semi
		}
	}
	t.Fatal(text, "can't be booted")
	return 0
}

// Promise 14.
func TestScriptsTellWhatThePlainOnesTell(t *testing.T) {
	t.Parallel()
	r := rand.New(rand.NewSource(142))
	count := map[string]int{}
	tally := func(name string, yes bool) {
		if yes {
			count[name]++
		}
	}
	for range 400 {
		text := someProgramText(r)
		for _, semi := range []int{leastSemi(t, text), impl.MinSemi + r.Intn(600), impl.MaxSemi} {
			for range 3 {
				m := checkPlain(t, text, semi, someActs(r, r.Intn(impl.MaxActs+1)))
				tally("runs", m.State == 0)
				tally("done", m.State == impl.MachDone)
				tally("error", m.State == impl.MachError)
				tally("failed", m.Failed)
				tally("short", m.Short)
				tally("short and caught", m.Short && m.Error != num(impl.ErrMemory))
				tally("deep", m.Deep)
				tally("in a cycle", m.Cycle)
				tally("in a cycle, and over", m.Cycle && m.State != 0)
				tally("several coroutines", len(impl.Statuses(m)) > 1)
				tally("printed", len(m.Out) > 0)
			}
		}
	}
	for _, name := range []string{"runs", "done", "error", "failed", "short", "short and caught", "deep", "in a cycle", "in a cycle, and over", "several coroutines", "printed"} {
		if count[name] < 10 {
			t.Error(name, "only", count[name], "times")
		}
	}
}

// Any order of the same acts: those that move are drawn to other places among those that run.
func TestActsInAnyOrder(t *testing.T) {
	t.Parallel()
	r := rand.New(rand.NewSource(143))
	for range 120 {
		text := someProgramText(r)
		semi := impl.MinSemi + r.Intn(300)
		list := someActs(r, 30)
		plain := impl.Plain(list)
		want := hosted(t, text, semi, plain...)
		for range 4 {
			var mixed []impl.Act
			left := plain
			for _, a := range list {
				for len(left) > 0 && r.Intn(2) == 0 {
					mixed, left = append(mixed, left[0]), left[1:]
				}
				if a.Kind != impl.ActRun {
					mixed = append(mixed, a)
				}
			}
			checkTheSame(t, text, hosted(t, text, semi, append(mixed, left...)...), want)
		}
	}
}

// companies are what may be done ahead of each step.
func companies() map[string][]impl.Act {
	return map[string][]impl.Act{
		"a flip":                     acts(flips()),
		"a collection":               acts(collects()),
		"a step of copying":          acts(copies(1)),
		"a flip, then one":           acts(flips(), copies(1)),
		"a flip, then three":         acts(flips(), copies(3)),
		"all copied, then a flip":    acts(copies(4000), flips()),
		"a collection, then a flip":  acts(collects(), flips()),
		"a flip, then a collection":  acts(flips(), collects()),
		"a flip, one, a flip again":  acts(flips(), copies(1), flips()),
		"two, a flip, two, then one": acts(copies(2), flips(), copies(2), runs(0), copies(1)),
	}
}

// inCompany hands on scripts that run up to that step, with the company ahead of each step of one stretch; the stretches of all together go from the first step on up to the last one.
func inCompany(from int, to int, company []impl.Act, do func(list []impl.Act)) {
	each := (impl.MaxActs - 2) / (len(company) + 1)
	for start := from; start < to; start += each {
		list := acts(runs(start))
		end := min(start+each, to)
		for range end - start {
			list = append(append(list, company...), runs(1))
		}
		do(append(list, runs(to-end)))
	}
}

// checkInCompany: a program tells this, whatever is done ahead of each of its steps.
func checkInCompany(t *testing.T, a act, semi int) impl.Machine {
	t.Helper()
	m := checkCompanies(t, a.text, semi)
	if m.State != a.state || m.Error != a.err || !slices.Equal(m.Out, strings.Fields(a.out)) {
		t.Fatalf("%s\nstate %d error %v out %q, want %d %v %q", a.text, m.State, m.Error, m.Out, a.state, a.err, a.out)
	}
	return m
}

// checkCompanies: a program that ends tells with any company what it tells alone, which is answered.
func checkCompanies(t *testing.T, text string, semi int) impl.Machine {
	t.Helper()
	want := hosted(t, text, semi, runs(4000))
	if want.State == 0 {
		t.Fatal(text, "does not end")
	}
	for name, company := range companies() {
		inCompany(0, want.Steps, company, func(list []impl.Act) {
			checkTheSame(t, name+": "+text, hosted(t, text, semi, list...), want)
		})
	}
	return want
}

func checkAllInCompany(t *testing.T, semi int, list ...act) {
	t.Helper()
	for _, a := range list {
		checkInCompany(t, a, semi)
	}
}

// A program that makes garbage for ever, in the smallest half: it never lacks room, however much is made.
func TestGarbageForEver(t *testing.T) {
	t.Parallel()
	for _, text := range []string{
		`local i = 0; while true { i = i + 1; local t = {i, {i}}; }`,
		`local i = 0; local s = ""; while true { i = i + 1; s = "some text of more than 8 bytes" .. tostr(i); }`,
		`local i = 0; local f = nil; while true { i = i + 1; local j = i; f = fn() { return j; }; if f() ~= i { error(i); } }`,
		`local t = {}; while true { t = {t[1], x = t}; t.x = nil; pcall(fn(x) { error({x}); return 0; }, "caught"); }`,
	} {
		semi := leastSemi(t, text)
		if semi != impl.MinSemi {
			t.Error("booted in", semi)
		}
		plain := repeatedActs(15, runs(4000))
		var moved []impl.Act
		for i, a := range plain {
			moved = append(moved, a, flips(), copies(i%4), []impl.Act{collects(), flips(), copies(2), runs(0)}[i%4])
		}
		m := checkPlain(t, text, semi, moved)
		if m.Steps != 60000 || m.State != 0 || m.Short || m.Deep || m.Serial < 3000 && !strings.Contains(text, "..") {
			t.Error(text, "steps", m.Steps, "state", m.State, m.Error, "short", m.Short, "serial", m.Serial)
		}
		checkTheSame(t, text, hosted(t, text, semi, plain...), m)
	}
	// As many acts and steps as there may be.
	text := `local i = 0; while true { i = i + 1; local t = {i}; }`
	m := hosted(t, text, impl.MinSemi, repeatedActs(60, runs(4000))...)
	if m.Steps != 240000 || m.State != 0 || m.Short {
		t.Error("steps", m.Steps, "state", m.State)
	}
	// What is kept for ever lacks room at the same step, whatever was moved.
	hoard := "local l = nil; while true { l = {l}; }"
	checkInCompany(t, ends(hoard, "", impl.ErrMemory), impl.MinSemi)
	checkInCompany(t, done("print(pcall(fn(x) { "+hoard+" return 0; }, 0)); print(failed()); local t = {1, 2}; print(#t);", "5 true 2"), impl.MinSemi)
}

// Keys come in the same order, whatever is flipped between.
func TestNextInCompany(t *testing.T) {
	t.Parallel()
	through := `local n = 0; local k = next(t, nil); while k ~= nil { n = n + 1; print(k); k = next(t, k); } print(n);`
	checkAllInCompany(t, 500,
		done("local t = {10, 20, 30}; "+through, "1 2 3 3"),
		done("local t = {}; "+through, "0"),
		done("local t = {1, 2, 3}; t[2] = nil; "+through, "1 3 2"),
		// Keys that are set to nothing on the way.
		done("local t = {5, 6, 7}; local k = next(t, nil); while k { print(k); t[k] = nil; k = next(t, k); } print(next(t, nil));", "1 2 3 nil"),
	)
	// Keys of each kind; their order is the table's own.
	for _, fill := range []string{
		`local t = {a = 1, b = 2, c = 3, "x", "y", "z"};`,
		`local t = {[true] = 1, [false] = 2, [print] = 3, [-1] = 4, [1000003] = 5, ["some text of more than 8 bytes"] = 6, [""] = 7};`,
		`local t = {}; local u = {}; local f = fn() { return u; }; t[u] = 1; t[f] = 2; t[t] = 3; t[{}] = 4; t[fn() { }] = 5;`,
		`local t = {}; local i = 0; while i < 14 { i = i + 1; t[i * 7] = i; t[tostr(i)] = i; } i = 0; while i < 9 { i = i + 1; t[i * 7] = nil; }`,
	} {
		m := checkCompanies(t, fill+" "+through, 1000)
		if m.State != impl.MachDone || len(m.Out) < 6 {
			t.Error(fill, m.State, m.Error, m.Out)
		}
	}
}

// A flip ahead of each step from the first to the last, in many scripts one behind the other would be: by FlipNow and Step.
func TestNextFlippedAtEachStep(t *testing.T) {
	text := `local t = {a = 1, b = {}, 3, 4, [true] = 5}; local u = {}; t[u] = 6; local k = next(t); while k ~= nil { print(k); k = next(t, k); }`
	want := hosted(t, text, 400, runs(4000))
	m := hosted(t, text, 400)
	flipped := 0
	for m.State == 0 {
		ok := false
		m, _ = impl.CopyNow(m, impl.MaxFuel)
		if m, ok = impl.FlipNow(m); ok {
			flipped++
		}
		m, _ = impl.Step(m)
	}
	checkTheSame(t, text, m, want)
	if len(want.Out) != 6 || flipped != want.Steps {
		t.Error(want.Out, flipped, "flips of", want.Steps)
	}
}

// A cycle that begins ahead of any step, goes over so many objects at once, and is over some steps later: in between, what was gone over stands beside what was not.
func TestCyclesOfAFewSteps(t *testing.T) {
	t.Parallel()
	for _, text := range []string{
		// What is handed over lies on a stack that waited: the one who gets it may be gone over already (a slot of its own, ahead of the other's, leads to it), who hands it over not.
		`local x = co(fn(v) { while true { v = yield(v[1]); } return 0; }); local first = x; resume(x, {0}); local a = co(fn(n) { while n < 9 { print(resume(x, {n}, yield(n))); n = n + 1; } return "end"; }); print(resume(a, 7)); local v = resume(a); while v ~= "end" { print(v); v = resume(a); } print(state(x));`,
		// The same of what is yielded.
		`local a = co(fn(n) { while n < 9 { yield({n}, yield(n)); n = n + 1; } return "end"; }); print(resume(a, 7)); local v = resume(a); while v ~= "end" { print(v[1]); v = resume(a); if v ~= "end" { print(v); v = resume(a); } }`,
		// Of what is raised, and what is set.
		`local t = {}; local a = co(fn(n) { t[1] = {n, yield(1)}; error({n, t}, yield(2)); return 0; }); resume(a, {7}); resume(a, 8); local e = pcall(fn(x) { return resume(a, x); }, 9); print(e[1][1]); print(t == e[2]); print(t[1][1] == e[1]); print(t[1][2]);`,
	} {
		// So great that no cycle begins by itself.
		want := hosted(t, text, 2000, runs(4000))
		if want.State != impl.MachDone {
			t.Fatal(text, want.State, want.Error)
		}
		for begun := range want.Steps {
			for gone := range 7 {
				for steps := 1; steps <= 8; steps++ {
					list := acts(runs(begun), flips(), copies(gone), runs(steps), copies(4000), collects(), runs(4000))
					checkTheSame(t, text, hosted(t, text, 2000, list...), want)
				}
			}
		}
	}
}
