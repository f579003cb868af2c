package tests

import (
	"fmt"
	"math"
	"math/rand"
	"slices"
	"testing"

	"loop.example/g00101/impl"
)

// wrongFuels are those that nothing is run with.
func wrongFuels() []int {
	return []int{math.MinInt, math.MinInt + 1, -4000, -2, -1, 4001, 4002, 8000, 1 << 32, math.MaxInt - 1, math.MaxInt}
}

// The code of the endless program: 0 a yes, 1 a jump to 3 behind a no, 2 a jump to 0.
func TestRunToWithMuchFuelAndLittle(t *testing.T) {
	m := endless(t)
	for _, x := range []struct{ place, fuel, code, steps int }{
		// Already there: no Step. Without fuel there is none to be ahead of.
		{0, 0, impl.MachFuel, 0}, {0, 1, impl.MachThere, 0}, {0, 2, impl.MachThere, 0}, {0, 3999, impl.MachThere, 0}, {0, 4000, impl.MachThere, 0},
		// Come to just as the fuel is up, and with one more.
		{1, 0, impl.MachFuel, 0}, {1, 1, impl.MachFuel, 1}, {1, 2, impl.MachThere, 1}, {1, 4000, impl.MachThere, 1},
		{2, 1, impl.MachFuel, 1}, {2, 2, impl.MachFuel, 2}, {2, 3, impl.MachThere, 2}, {2, 4000, impl.MachThere, 2},
		// Never come to: the end is in the Code, but behind a jump.
		{3, 0, impl.MachFuel, 0}, {3, 1, impl.MachFuel, 1}, {3, 3999, impl.MachFuel, 3999}, {3, 4000, impl.MachFuel, 4000}, {4, 4000, impl.MachFuel, 4000}, {5, 100, impl.MachFuel, 100},
	} {
		got, code := checkRunTo(t, "endless", m, 0, x.place, x.fuel)
		if code != x.code || got.Steps != x.steps || got.State != 0 {
			t.Errorf("%+v: %d behind %d steps", x, code, got.Steps)
		}
	}
	for _, fuel := range wrongFuels() {
		for place := range 4 {
			got, code := checkRunTo(t, "endless", m, 0, place, fuel)
			if code != 0 || !sameMachine(got, m) {
				t.Errorf("to %d with %d: %d", place, fuel, code)
			}
		}
	}
}

// What is no place of a frame is never come to: it runs as RunMachine does.
func TestRunToNowhere(t *testing.T) {
	for _, text := range []string{"while true { }", "print(1);", "error(1);", "local f = fn() { return 1 / 0; }; print(f());"} {
		m := booted(t, text, 300)
		codes := len(m.Module.Protos[0].Code)
		for _, to := range [][2]int{{0, -1}, {0, codes}, {0, codes + 1}, {0, 4095}, {0, 4096}, {0, math.MinInt}, {0, math.MaxInt}, {-1, 0}, {-1, -1}, {-2, 0}, {2, 0}, {99, 0}, {100, 0}, {255, 0}, {256, 0}, {math.MinInt, 0}, {math.MaxInt, 0}, {math.MaxInt, math.MaxInt}, {1 << 32, 0}, {0, 1 << 32}} {
			for _, fuel := range []int{0, 1, 3, 4000} {
				got, code := checkRunTo(t, text, m, to[0], to[1], fuel)
				want, answer := impl.RunMachine(m, fuel)
				if code != answer || !sameMachine(got, want) {
					t.Errorf("%s: to %v with %d: %d, want %d", text, to, fuel, code, answer)
				}
			}
		}
	}
}

// Seven steps: a mark, print, 1, a call, a pop, nothing, a return.
func TestRunToTheEnd(t *testing.T) {
	m := booted(t, "print(1);", 256)
	for _, x := range []struct{ place, fuel, code, steps, out int }{
		{3, 3, impl.MachFuel, 3, 0}, {3, 4, impl.MachThere, 3, 0}, {4, 5, impl.MachThere, 4, 1},
		{6, 6, impl.MachFuel, 6, 1}, {6, 7, impl.MachThere, 6, 1}, {6, 8, impl.MachThere, 6, 1},
		{7, 6, impl.MachFuel, 6, 1}, {7, 7, impl.MachDone, 7, 1}, {7, 8, impl.MachDone, 7, 1}, {7, 4000, impl.MachDone, 7, 1},
	} {
		got, code := checkRunTo(t, "print", m, 0, x.place, x.fuel)
		if code != x.code || got.Steps != x.steps || len(got.Out) != x.out {
			t.Errorf("%+v: %d behind %d steps, %q", x, code, got.Steps, got.Out)
		}
	}
	// Behind its end it is nowhere, also where its coroutine's word says a place.
	for _, text := range []string{"print(1);", "error(5);"} {
		over, code := impl.RunMachine(booted(t, text, 256), impl.MaxFuel)
		for _, fuel := range []int{0, 1, 4000} {
			got, again := checkRunTo(t, text, over, 0, 0, fuel)
			if again != code || !sameMachine(got, over) {
				t.Error(text, fuel, again)
			}
		}
	}
	for state := 1; state <= 2; state++ {
		m.State = state
		for place := range 3 {
			for _, fuel := range []int{0, 1, 2, 4000} {
				got, code := checkRunTo(t, "over", m, 0, place, fuel)
				if code != state || !sameMachine(got, m) {
					t.Error("State", state, "to", place, "with", fuel, code)
				}
			}
		}
	}
}

// A place in a loop is come to each time: a Step leads off it.
func TestRunToAgainAndAgain(t *testing.T) {
	m := booted(t, "local i = 0; while i < 5 { i = i + 1; print(i); } print(9);", 300)
	// 0 and 1 set i, 2 is where the loop begins.
	for n := range 6 {
		stop := there(t, m, 0, 2)
		if again, code := impl.RunTo(stop, 0, 2, 1); code != impl.MachThere || !sameMachine(again, stop) {
			t.Error("not there any more", n, code)
		}
		if len(stop.Out) != n || impl.Locals(stop, 0)[0] != fmt.Sprint(n) {
			t.Error("round", n, stop.Out, impl.Locals(stop, 0))
		}
		m = nextStep(t, stop)
	}
	got, code := checkRunTo(t, "no round more", m, 0, 2, impl.MaxFuel)
	if code != impl.MachDone || len(got.Out) != 6 {
		t.Error(code, got.Out)
	}
}

// The frame that runs is to be there, not one that waits, nor one of another coroutine.
func TestRunToAsksForTheFrameThatRuns(t *testing.T) {
	m := booted(t, "local f = nil; f = fn(n) { if n == 0 { return 0; } local r = f(n - 1); return r + 1; }; print(f(3)); print(f(2));", 600)
	behind := slices.Index(m.Module.Protos[1].Code, ins(impl.OCall, 1)) + 1
	if behind < 2 {
		t.Fatal("no call")
	}
	// It is come to when the innermost frame has returned: then n is 1, 2, 3, and 1, 2.
	for _, want := range []string{"1", "2", "3", "1", "2"} {
		m = there(t, m, 1, behind)
		if got := impl.Locals(m, 0); len(got) != 2 || got[0] != want {
			t.Error("locals", got, want)
		}
		m = nextStep(t, m)
	}
	if got, code := impl.RunTo(m, 1, behind, impl.MaxFuel); code != impl.MachDone || !slices.Equal(got.Out, []string{"3", "2"}) {
		t.Error(code, got.Out)
	}
	// Two coroutines of one function: the place is come to in each of them.
	m = booted(t, "local f = fn(x) { yield(x); return x + 1; }; local a = co(f); local b = co(f); resume(a, 10); resume(b, 20); resume(b); resume(a);", 900)
	for _, want := range []string{"20", "10"} {
		m = there(t, m, 1, 4)
		if got := impl.Locals(m, 0); !slices.Equal(got, []string{want}) {
			t.Error("locals", got, want)
		}
		m = nextStep(t, m)
	}
	checkRunTo(t, "no more", m, 1, 4, impl.MaxFuel)
}

// Frames that are none as programs have them: what Backtrace tells of the one that runs is where it is.
func TestRunToOfBrokenFrames(t *testing.T) {
	for _, stack := range []string{"self 1 | 2", "odd |", "nil 1 | 2", "co |", "self | / nil 7 plain 1 2 3 |", "self | / 3 5 odd |", "plain |"} {
		for _, place := range []int{0, 1, 3, 4, 99, 4095} {
			s := framedScene(ins(impl.OInt, 5), stack)
			goesTo(place)(s)
			for _, m := range movedEach(s.Machine) {
				f := impl.Backtrace(m)[0]
				got, code := checkRunTo(t, stack, m, f.Proto, f.Place, 1)
				if code != impl.MachThere || !sameMachine(got, m) || f.Place != place {
					t.Errorf("%s at %d: %d", stack, place, code)
				}
				for _, to := range [][2]int{{f.Proto, place + 1}, {f.Proto, place - 1}, {f.Proto + 1, place}, {f.Proto - 1, place}, {place, f.Proto}} {
					for _, fuel := range []int{0, 1, 2, 9} {
						checkRunTo(t, stack, m, to[0], to[1], fuel)
					}
				}
			}
		}
	}
	// Where no frame runs there is no place to be.
	for base := range 3 {
		s := sceneOf(ins(impl.ONil, 0), "self 1 | 2")
		s.Words[s.place("run")+3] = uint64(base)
		for proto := -2; proto < 3; proto++ {
			for place := -2; place < 3; place++ {
				if _, code := checkRunTo(t, fmt.Sprint("base ", base), s.Machine, proto, place, 9); code != impl.MachError {
					t.Error("base", base, "to", proto, place, code)
				}
			}
		}
	}
	for _, v := range without(someOfEach(), "co", "run") {
		s := sceneOf(ins(impl.ONil, 0), "self 1 | 2")
		s.Roots[0] = s.val(v)
		for _, to := range [][2]int{{1, 0}, {0, 0}, {-1, 0}, {-1, -1}} {
			if _, code := checkRunTo(t, "the Root 0 is "+v, s.Machine, to[0], to[1], 9); code != impl.MachError {
				t.Error(v, to, code)
			}
		}
	}
}

// A machine whose Steps wrap round is right no more, and stops.
func TestLookingAtStepsWithoutEnd(t *testing.T) {
	for _, steps := range []int{math.MaxInt - 2, math.MaxInt - 1, math.MaxInt} {
		m := endless(t)
		m.Steps = steps
		for _, fuel := range []int{0, 1, 2, 3, 4, 9} {
			for place := range 4 {
				checkRunTo(t, fmt.Sprint("Steps ", steps), m, 0, place, fuel)
			}
			if got := checkProfile(t, fmt.Sprint("Steps ", steps), m, fuel); !slices.Equal(got, []int{min(fuel, math.MaxInt-steps+1)}) {
				t.Error("profile", steps, fuel, got)
			}
		}
	}
}

func TestProfileByHand(t *testing.T) {
	for _, x := range []struct {
		text string
		fuel int
		want []int
	}{
		{"while true { }", 0, []int{0}}, {"while true { }", 1, []int{1}}, {"while true { }", 3999, []int{3999}}, {"while true { }", 4000, []int{4000}},
		{"print(1);", 0, []int{0}}, {"print(1);", 6, []int{6}}, {"print(1);", 7, []int{7}}, {"print(1);", 8, []int{7}}, {"print(1);", 4000, []int{7}},
		{"error(1);", 3, []int{3}}, {"error(1);", 4, []int{4}}, {"error(1);", 4000, []int{4}},
		// The call is a step of who calls, the return one of what was called; a function that nobody calls has none.
		{"local f = fn() { return 1; }; local g = fn() { return 2; }; f(); f();", 4000, []int{14, 4, 0}},
		{"local f = fn() { return 1; }; local g = fn() { return 2; }; f(); f();", 7, []int{7, 0, 0}},
		{"local f = fn() { return 1; }; local g = fn() { return 2; }; f(); f();", 8, []int{7, 1, 0}},
		{"local f = fn() { return 1; }; local g = fn() { return 2; }; f(); f();", 10, []int{8, 2, 0}},
		// An error is a step of where it was raised; the pop, nothing and the return come behind it.
		{"pcall(fn(x) { return x / 0; }, 1);", 4000, []int{8, 3}},
		// The Top's steps up to resume, then the coroutine's, then the rest.
		{"resume(co(fn(x) { return yield(x); }), 1); print(2);", 4000, []int{16, 4}},
		{"local c = co(fn(x) { return yield(x); }); resume(c, 1); resume(c, 2);", 4000, []int{19, 5}},
	} {
		got := checkProfile(t, x.text, booted(t, x.text, 600), x.fuel)
		if !slices.Equal(got, x.want) {
			t.Errorf("%s with %d: %v, want %v", x.text, x.fuel, got, x.want)
		}
	}
	m := booted(t, "local f = fn() { return 1; }; print(f());", 300)
	for _, fuel := range wrongFuels() {
		if got := checkProfile(t, "wrong fuel", m, fuel); len(got) != 0 {
			t.Error("fuel", fuel, got)
		}
	}
	// It does not hang on what was done already.
	m, _ = impl.RunMachine(m, 3)
	if got := checkProfile(t, "behind three", m, 4000); !slices.Equal(got, []int{8, 2}) {
		t.Error("behind three", got)
	}
	for _, fuel := range []int{0, 1, 4000} {
		over, _ := impl.RunMachine(m, impl.MaxFuel)
		if got := checkProfile(t, "over", over, fuel); !slices.Equal(got, []int{0, 0}) {
			t.Error("over", got)
		}
		m.State = 1 + fuel%2
		if got := checkProfile(t, "over", m, fuel); !slices.Equal(got, []int{0, 0}) {
			t.Error("State", m.State, got)
		}
	}
}

// A Step that begins in a frame is one of its Proto, whatever comes of it; one in a frame without a Proto, or in none, is nobody's.
func TestProfileOfBrokenFrames(t *testing.T) {
	counts := func(proto int) []int {
		list := make([]int, 5)
		if proto >= 0 {
			list[proto]++
		}
		return list
	}
	for stack, proto := range map[string]int{"self 1 | 2": 1, "plain |": 3, "plain 1 2 |": 3, "odd |": -1, "nil |": -1, "co 1 |": -1, "self | / nil 7 plain 1 |": 3, "self | / 3 5 odd |": -1} {
		for _, place := range []int{0, 4, 4095} {
			s := framedScene(ins(impl.OTurn, impl.TurnNeg), stack)
			goesTo(place)(s)
			if got := checkProfile(t, stack, s.Machine, 1); !slices.Equal(got, counts(proto)) {
				t.Errorf("%s at %d: %v", stack, place, got)
			}
			checkProfile(t, stack, s.Machine, 30)
		}
	}
	for base := range 7 {
		s := sceneOf(ins(impl.ONil, 0), "self 1 2 3 | 4")
		s.Words[s.place("run")+3] = uint64(base)
		want := counts(-1)
		if base == 3 {
			want = counts(1)
		}
		if got := checkProfile(t, fmt.Sprint("base ", base), s.Machine, 1); !slices.Equal(got, want) {
			t.Error("base", base, got)
		}
	}
	for _, v := range without(someOfEach(), "co", "run") {
		s := sceneOf(ins(impl.ONil, 0), "self 1 | 2")
		s.Roots[0] = s.val(v)
		if got := checkProfile(t, "the Root 0 is "+v, s.Machine, 3); !slices.Equal(got, counts(-1)) {
			t.Error(v, got)
		}
	}
}

// Where every Step begins in a frame that has a Proto, all of them are counted.
func TestProfilesHaveAllSteps(t *testing.T) {
	t.Parallel()
	r := rand.New(rand.NewSource(173))
	many := 0
	for range 250 {
		module, text := someModule(r, 3+r.Intn(10))
		m := bootOf(t, module, impl.MinSemi+r.Intn(900))
		fuel := r.Intn(400)
		got := checkProfile(t, text, m, fuel)
		ran, _ := impl.RunMachine(m, fuel)
		sum, functions := 0, 0
		for _, n := range got {
			sum += n
			if n > 0 {
				functions++
			}
		}
		if sum != ran.Steps || len(got) != len(module.Protos) {
			t.Fatalf("%s with %d: %v are %d, want %d", text, fuel, got, sum, ran.Steps)
		}
		if functions > 2 {
			many++
		}
		// In two parts it is the same, wherever things lie.
		half, _ := impl.RunMachine(m, fuel/2)
		rest := impl.Profile(movedBy(r, half), fuel-fuel/2)
		for i, n := range impl.Profile(m, fuel/2) {
			if n+rest[i] != got[i] {
				t.Fatalf("%s with %d: %v, and behind a half %v", text, fuel, got, rest)
			}
		}
	}
	if many < 50 {
		t.Error("only", many, "of several functions")
	}
	for range 300 {
		checkProfile(t, "a loose machine", movedBy(r, looseMachine(r)), r.Intn(30))
	}
}

// placeBehind is where the frame that runs is, so many Steps from m on; false when it is over by then.
func placeBehind(m impl.Machine, steps int) (int, int, bool) {
	m, _ = impl.RunMachine(m, steps)
	frames := modelFrames(m)
	if m.State != 0 || len(frames) == 0 {
		return 0, 0, false
	}
	return frames[0].Proto, frames[0].Place, true
}

// Promise 17: a run that stops at a place is there, and goes on to where the run goes that does not stop.
func TestRunsThatStop(t *testing.T) {
	t.Parallel()
	r := rand.New(rand.NewSource(174))
	stops, inner, coroutines := 0, 0, 0
	for range 120 {
		module, text := someModule(r, 3+r.Intn(10))
		m := bootOf(t, module, impl.MinSemi+r.Intn(900))
		end, _ := impl.RunMachine(m, impl.MaxFuel)
		for range 8 {
			proto, place, ok := placeBehind(m, r.Intn(min(end.Steps, 200)+1))
			if !ok {
				continue
			}
			stop, code := checkRunTo(t, text, m, proto, place, impl.MaxFuel)
			frames := impl.Backtrace(stop)
			if code != impl.MachThere || len(frames) == 0 || frames[0].Proto != proto || frames[0].Place != place {
				t.Fatalf("%s: to %d %d: %d at %s", text, proto, place, code, toldFrames(frames))
			}
			if rest, _ := impl.RunMachine(stop, impl.MaxFuel-stop.Steps); !sameMachine(rest, end) {
				t.Fatalf("%s: from %d %d on it ends as\n%s\nwant\n%s", text, proto, place, toldMachine(rest), toldMachine(end))
			}
			stops++
			if len(frames) > 1 {
				inner++
			}
			if len(impl.Statuses(stop)) > 1 {
				coroutines++
			}
		}
	}
	if stops < 500 || inner < 40 || coroutines < 40 {
		t.Error("too few:", stops, "stops,", inner, "in functions,", coroutines, "with coroutines")
	}
}

// From stop to stop, with flips and copying between, it tells what it tells at once.
func TestRunsThatStopAreMoved(t *testing.T) {
	t.Parallel()
	r := rand.New(rand.NewSource(175))
	stops := 0
	for range 160 {
		module, text := someModule(r, 3+r.Intn(10))
		m := bootOf(t, module, 500+r.Intn(900))
		end, code := impl.RunMachine(m, impl.MaxFuel)
		if code == impl.MachFuel {
			continue
		}
		proto := r.Intn(len(module.Protos))
		place := r.Intn(len(module.Protos[proto].Code))
		for {
			m = movedBy(r, m)
			m, code = checkRunTo(t, text, m, proto, place, impl.MaxFuel)
			if code != impl.MachThere {
				break
			}
			stops++
			m, _ = impl.Step(movedBy(r, m))
			proto = r.Intn(len(module.Protos))
			place = r.Intn(len(module.Protos[proto].Code))
		}
		if code != end.State || told(t, m) != told(t, end) {
			t.Fatalf("%s: it ends with %d\n%s\nwant\n%s", text, code, told(t, m), told(t, end))
		}
	}
	if stops < 60 {
		t.Error("only", stops, "stops")
	}
}

// Machines that no program comes to, to places that are drawn or that they come to, with any fuel.
func TestRunsOfLooseMachines(t *testing.T) {
	t.Parallel()
	r := rand.New(rand.NewSource(176))
	codes := map[int]int{}
	for range 1200 {
		m := movedBy(r, looseMachine(r))
		proto, place := r.Intn(6)-1, r.Intn(8)-1
		if p, at, ok := placeBehind(m, r.Intn(6)); ok && r.Intn(3) > 0 {
			proto, place = p, at
		}
		_, code := checkRunTo(t, "a loose machine", m, proto, place, r.Intn(12)-1)
		codes[code]++
	}
	for code := range 5 {
		if codes[code] < 10 {
			t.Error("the code", code, "comes", codes[code], "times")
		}
	}
}
