package tests

import (
	"fmt"
	"slices"
	"strings"
	"testing"

	"loop.example/g00101/impl"
)

func TestMachThere(t *testing.T) {
	if impl.MachThere != 4 {
		t.Error(impl.MachThere)
	}
}

// outlook is what is seen of a machine: its frames, all on its stack, and the locals of each frame, parted by blanks.
type outlook struct {
	frames string
	stack  string
	locals []string
}

func checkOutlook(t *testing.T, name string, m impl.Machine, want outlook) {
	t.Helper()
	for i, m := range movedEach(m) {
		frames := impl.Backtrace(m)
		if got := toldFrames(frames); got != want.frames {
			t.Fatalf("%s, moved %d times: the frames are %s, want %s", name, i, got, want.frames)
		}
		if got := strings.Join(impl.StackTexts(m), " "); got != want.stack {
			t.Fatalf("%s, moved %d times: the stack is %s, want %s", name, i, got, want.stack)
		}
		for k := -1; k <= len(want.locals); k++ {
			line := ""
			if k >= 0 && k < len(want.locals) {
				line = want.locals[k]
			}
			if got := strings.Join(impl.Locals(m, k), " "); got != line {
				t.Fatalf("%s, moved %d times: the locals of %d are %s, want %s", name, i, k, got, line)
			}
		}
		if len(frames) != len(want.locals) {
			t.Fatalf("%s: %d frames", name, len(frames))
		}
	}
	checkSeenMoved(t, name, m)
}

// there is the machine at a place that it must come to.
func there(t *testing.T, m impl.Machine, proto int, place int) impl.Machine {
	t.Helper()
	m, code := impl.RunTo(m, proto, place, impl.MaxFuel)
	if code != impl.MachThere {
		t.Fatalf("to Proto %d, place %d: %d", proto, place, code)
	}
	return m
}

// nextStep is the machine behind one step more.
func nextStep(t *testing.T, m impl.Machine) impl.Machine {
	t.Helper()
	m, ok := impl.Step(m)
	if !ok {
		t.Fatal("no step")
	}
	return m
}

func TestSeenWhenBooted(t *testing.T) {
	for text, want := range map[string]outlook{
		"":                              {"0 0 3", "0 0 fn:1", []string{""}},
		"local a = 1;":                  {"0 0 3", "0 0 fn:1 nil", []string{"nil"}},
		"local a = 1; local b = a;":     {"0 0 3", "0 0 fn:1 nil nil", []string{"nil nil"}},
		"local f = fn(a) { return 1;};": {"0 0 3", "0 0 fn:1 nil", []string{"nil"}},
	} {
		for _, semi := range []int{256, 300, 4000} {
			checkOutlook(t, text, booted(t, text, semi), want)
		}
	}
}

// A function within a function within one: each waits behind its call.
func TestSeenWithinFunctions(t *testing.T) {
	text := "local f = fn(a) { local g = fn(b) { local h = fn(c) { return c; }; return h(b + 1); }; return g(a + 1); }; print(f(1));"
	m := booted(t, text, 700)
	checkOutlook(t, "ahead of the call", there(t, m, 0, 7), outlook{"0 7 3", "0 0 fn:1 fn:3 0 0 lib:1 0 0 fn:3 1", []string{"fn:3"}})
	f := there(t, m, 3, 0)
	checkOutlook(t, "f", f, outlook{"3 0 10; 0 8 3", "0 0 fn:1 fn:3 0 0 lib:1 3 16 fn:3 1 nil", []string{"1 nil", "fn:3"}})
	g := there(t, f, 2, 0)
	checkOutlook(t, "g", g, outlook{"2 0 15; 3 8 10; 0 8 3", "0 0 fn:1 fn:3 0 0 lib:1 3 16 fn:3 1 fn:4 10 16 fn:4 2 nil", []string{"2 nil", "1 fn:4", "fn:3"}})
	h := there(t, g, 1, 0)
	deep := outlook{"1 0 20; 2 8 15; 3 8 10; 0 8 3", "0 0 fn:1 fn:3 0 0 lib:1 3 16 fn:3 1 fn:4 10 16 fn:4 2 fn:5 15 16 fn:5 3", []string{"3", "2 fn:5", "1 fn:4", "fn:3"}}
	checkOutlook(t, "h", h, deep)
	// What is reckoned is on the stack, but no local.
	deep.frames, deep.stack = strings.Replace(deep.frames, "1 0 20", "1 1 20", 1), deep.stack+" 3"
	checkOutlook(t, "h, ahead of its return", nextStep(t, h), deep)
	checkOutlook(t, "back in g", there(t, h, 2, 8), outlook{"2 8 15; 3 8 10; 0 8 3", "0 0 fn:1 fn:3 0 0 lib:1 3 16 fn:3 1 fn:4 10 16 fn:4 2 fn:5 3", []string{"2 fn:5", "1 fn:4", "fn:3"}})
	checkOutlook(t, "back in the Top", there(t, h, 0, 8), outlook{"0 8 3", "0 0 fn:1 fn:3 0 0 lib:1 3", []string{"fn:3"}})
	over, _ := impl.RunMachine(h, impl.MaxFuel)
	checkOutlook(t, "over", over, outlook{})
}

// What pcall calls is caught, not what that calls; behind an error it is gone.
func TestSeenWithinPcall(t *testing.T) {
	m := booted(t, "local f = fn(x) { local g = fn(y) { return y / 0; }; return g(x); }; pcall(f, 7); f(8);", 700)
	f := there(t, m, 2, 0)
	checkOutlook(t, "called by pcall", f, outlook{"2 0 7!; 0 7 3", "0 0 fn:1 fn:3 3 15 fn:3 7 nil", []string{"7 nil", "fn:3"}})
	g := there(t, f, 1, 2)
	checkOutlook(t, "called within it", g, outlook{"1 2 12; 2 6 7!; 0 7 3", "0 0 fn:1 fn:3 3 15 fn:3 7 fn:4 7 12 fn:4 7 7 0", []string{"7", "7 fn:4", "fn:3"}})
	caught := nextStep(t, g)
	checkOutlook(t, "caught", caught, outlook{"0 7 3", "0 0 fn:1 fn:3 2", []string{"fn:3"}})
	again := there(t, caught, 1, 2)
	checkOutlook(t, "called without pcall", again, outlook{"1 2 12; 2 6 7; 0 12 3", "0 0 fn:1 fn:3 3 24 fn:3 8 fn:5 7 12 fn:5 8 8 0", []string{"8", "8 fn:5", "fn:3"}})
	over := nextStep(t, again)
	if over.State != impl.MachError {
		t.Error("state", over.State)
	}
	checkOutlook(t, "caught by nobody", over, outlook{})
	// pcall within what pcall has called.
	m = there(t, booted(t, "pcall(fn(a) { return pcall(fn(b) { return b; }, a); }, 5);", 700), 1, 0)
	checkOutlook(t, "pcall in pcall", m, outlook{"1 0 10!; 2 5 6!; 0 5 3", "0 0 fn:1 3 11 fn:3 5 6 11 fn:4 5", []string{"5", "5", ""}})
}

// A coroutine has frames of its own alone.
func TestSeenWithinCoroutines(t *testing.T) {
	text := "local c = co(fn(x) { local k = fn(y) { return yield(y); }; return k(x); }); local f = fn(z) { return resume(c, z); }; print(pcall(f, 5)); resume(c, 6);"
	f := there(t, booted(t, text, 900), 3, 4)
	checkOutlook(t, "ahead of resume", f, outlook{"3 4 11!; 0 15 3", "0 0 fn:1 box fn:5 0 0 lib:1 3 31 fn:5 5 0 0 lib:9 co:4 5", []string{"5", "=co:4 fn:5"}})
	c := nextStep(t, f)
	checkOutlook(t, "resumed", c, outlook{"2 0 3", "0 0 fn:3 5 nil", []string{"5 nil"}})
	k := there(t, c, 1, 3)
	checkOutlook(t, "ahead of yield", k, outlook{"1 3 8; 2 6 3", "0 0 fn:3 5 fn:6 3 12 fn:6 5 0 0 lib:10 5", []string{"5", "5 fn:6"}})
	back := nextStep(t, k)
	checkOutlook(t, "yielded", back, outlook{"3 5 11!; 0 15 3", "0 0 fn:1 box fn:5 0 0 lib:1 3 31 fn:5 5 5", []string{"5", "=co:4 fn:5"}})
	on := there(t, back, 1, 4)
	checkOutlook(t, "resumed by the Top", on, outlook{"1 4 8; 2 6 3", "0 0 fn:3 5 fn:6 3 12 fn:6 5 6", []string{"5", "5 fn:6"}})
	checkOutlook(t, "the coroutine is over", there(t, on, 0, 22), outlook{"0 22 3", "0 0 fn:1 box fn:5 6", []string{"=co:4 fn:5"}})
}

// checkLaid: the frames of a stack that is laid by hand.
func checkLaid(t *testing.T, stack string, s *scene, want string) {
	t.Helper()
	if got := toldFrames(impl.Backtrace(s.Machine)); got != want {
		t.Errorf("%s: the frames are %s, want %s", stack, got, want)
	}
	if n := checkSeenMoved(t, stack, s.Machine); n != impl.DeepOf(s.Machine) {
		t.Errorf("%s: %d frames", stack, n)
	}
}

// The functions self and bare have Proto 1, plain has Proto 3, odd none.
func TestFramesByHand(t *testing.T) {
	for stack, want := range map[string]string{
		"self 1 | 2":                                         "1 0 3",
		"plain 1 2 3 |":                                      "3 0 3",
		"self | / 3 4 bare 1 2 | 5":                          "1 0 6; 1 2 3",
		"bare 1 2 | / 3 0 plain |":                           "3 0 8; 1 0 3",
		"self | / 3 1 self |":                                "1 0 6!; 1 0 3",
		"self | / 3 2 self |":                                "1 0 6; 1 1 3",
		"self | / 3 3 self |":                                "1 0 6!; 1 1 3",
		"self | / 3 8190 self |":                             "1 0 6; 1 4095 3",
		"self | / 3 8191 self |":                             "1 0 6!; 1 4095 3",
		"self | / 3 9 self | / 6 4 plain | / 9 7 bare |":     "1 0 12!; 3 3 9; 1 2 6!; 1 4 3",
		"self | 1 2 / 3 10 self | nil / 8 21 self | ab":      "1 0 12!; 1 10 8; 1 5 3",
		"bare 1 2 | / 3 6 odd | 4 / 8 3 nil |":               "-1 0 12!; -1 1 8; 1 3 3",
		"self | / 3 9 self | / 3 4 plain 1 2 3 |":            "3 0 9; 1 2 3",
		"self | / 3 9 self | / 6 5 plain | / 3 6 bare | 1 2": "1 0 12; 1 3 3",
		// A base right above another frame's function, or among its links: none of a program has such ones.
		"self 1 | / 4 6 self | 5":     "1 0 7; -1 3 4",
		"self 1 2 | / 5 7 self | 5":   "1 0 8!; -1 3 5!",
		"plain self | / 4 6 self |":   "1 0 7; 1 3 4",
		"plain 4 self | / 5 6 self |": "1 0 8; 1 3 5",
		"plain 5 self | / 5 6 self |": "1 0 8; 1 3 5!",
	} {
		checkLaid(t, stack, framedScene(ins(impl.ONil, 0), stack), want)
	}
	// As many as there may be: of every other one the upper link is odd.
	stack, want := "self |", "1 0 60!"
	for base := 3; base < 60; base += 3 {
		stack += fmt.Sprint(" / ", base, " ", 2+base%2, " self |")
		below := 60 - base
		want += fmt.Sprint("; 1 1 ", below, map[bool]string{true: "!"}[below > 3 && below%2 == 0])
	}
	checkLaid(t, "many", framedScene(ins(impl.ONil, 0), stack), want)
}

// The fourth word is the place of the frame that runs, whatever Code there is.
func TestPlacesOfFramesThatRun(t *testing.T) {
	for _, place := range []int{0, 1, 3, 4, 99, 4000, 4094, 4095} {
		s := framedScene(ins(impl.ONil, 0), "self | / 3 5 self |")
		goesTo(place)(s)
		checkLaid(t, fmt.Sprint("place ", place), s, fmt.Sprintf("1 %d 6!; 1 2 3", place))
	}
}

// What stands below a base may be no function with a Proto's number.
func TestFramesWithoutProto(t *testing.T) {
	for _, v := range without(someOfEach(), "self", "plain") {
		checkLaid(t, v, framedScene(ins(impl.ONil, 0), v+" |"), "-1 0 3")
		checkLaid(t, v+" above", framedScene(ins(impl.ONil, 0), "self | / 3 4 "+v+" |"), "-1 0 6; 1 2 3")
		checkLaid(t, v+" below", framedScene(ins(impl.ONil, 0), v+" | / 3 5 self |"), "1 0 6!; -1 2 3")
	}
	// The module has the Protos 0 to 4.
	for number, want := range map[uint64]string{0: "0", 1: "1", 4: "4", 5: "-1", 6: "-1", 99: "-1", 100: "-1", 254: "-1", 255: "-1"} {
		s := framedScene(ins(impl.ONil, 0), "self | / 3 4 odd |")
		s.Words[s.place("odd")+1] = number
		checkLaid(t, fmt.Sprint("Proto ", number), s, want+" 0 6; 1 2 3")
	}
}

// The lowest frame is not caught, whatever its links are, and nothing is below it.
func TestLinksOfTheLowestFrame(t *testing.T) {
	for _, links := range [][]impl.Val{{num(0), num(1)}, {num(3), num(7)}, {num(0), num(8191)}, {{}, num(3)}, {yes(), yes()}, {num(3), num(4)}, {num(-1), num(-1)}} {
		for stack, want := range map[string]string{"self | 1": "1 0 3", "self | / 3 4 self |": "1 0 6; 1 2 3", "self | / 3 7 self |": "1 0 6!; 1 3 3"} {
			s := framedScene(ins(impl.ONil, 0), stack)
			copy(s.Words[s.place("run")+7:], pairs(links...))
			checkLaid(t, fmt.Sprint(stack, links), s, want)
		}
	}
}

// Where something else than a link stands nothing below is told; an upper link that is one says whether it is caught.
func TestFramesAboveWrongLinks(t *testing.T) {
	for _, links := range wrongLinks(6) {
		stack := "self | / " + links + " self |"
		checkLaid(t, stack, framedScene(ins(impl.ONil, 0), stack), "1 0 6")
		stack += " / 6 3 plain |"
		checkLaid(t, stack, framedScene(ins(impl.ONil, 0), stack), "3 0 9!; 1 1 6")
	}
	for links, want := range map[string]string{
		"nil 7": "1 0 6!", "yes 7": "1 0 6!", "ab 1": "1 0 6!", "box 8191": "1 0 6!", "2 7": "1 0 6!", "0 1": "1 0 6!", "-1 3": "1 0 6!", "4 7": "1 0 6!", "1000 7": "1 0 6!",
		"nil 6": "1 0 6", "2 6": "1 0 6", "4 8190": "1 0 6",
		"3 -1": "1 0 6", "3 -7": "1 0 6", "3 8193": "1 0 6", "3 9999": "1 0 6", "nil -1": "1 0 6", "nil 8193": "1 0 6", "3 yes": "1 0 6", "3 lib:1": "1 0 6", "3 nil": "1 0 6", "3 box": "1 0 6",
	} {
		stack := "self | / " + links + " self |"
		checkLaid(t, stack, framedScene(ins(impl.ONil, 0), stack), want)
	}
}

// A base below 3 is none of a frame; one above it has links of its own wherever it is, and here they are none.
func TestBasesOfFrames(t *testing.T) {
	for base, want := range []string{"", "", "", "1 0 3", "-1 0 4", "-1 0 5!", "-1 0 6", "-1 0 7!"} {
		s := framedScene(ins(impl.ONil, 0), "self 1 | 2 3 4")
		s.Words[s.place("run")+3] = uint64(base)
		checkLaid(t, fmt.Sprint("base ", base), s, want)
		if len(impl.StackTexts(s.Machine)) != 7*min(base/3, 1) {
			t.Error("base", base, impl.StackTexts(s.Machine))
		}
	}
}

// The Root 0 is to be a coroutine; another one than "run" has frames of its own.
func TestWhoRuns(t *testing.T) {
	for _, v := range someOfEach() {
		s := framedScene(ins(impl.ONil, 0), "self 1 | / 3 5 self 2 |")
		s.Roots[0] = s.val(v)
		want := map[string]string{"run": "1 0 7!; 1 2 3", "co": "3 0 3"}[v]
		checkLaid(t, "the Root 0 is "+v, s, want)
		if want == "" && (len(impl.StackTexts(s.Machine)) != 0 || len(impl.Locals(s.Machine, 0)) != 0) {
			t.Error(v, impl.StackTexts(s.Machine))
		}
	}
}

// The State is not asked for: a machine that stopped amid its frames has them still.
func TestFramesOfMachinesThatAreOver(t *testing.T) {
	for state := range 3 {
		s := framedScene(ins(impl.ONil, 0), "self 1 | / 3 5 plain 2 3 4 | 5")
		want := seen(s.Machine)
		s.State, s.Error, s.Failed, s.Steps = state, num(7), true, 9
		checkLaid(t, fmt.Sprint("State ", state), s, "3 0 7!; 1 2 3")
		if got := seen(s.Machine); got != want {
			t.Errorf("State %d: %s\nwant %s", state, got, want)
		}
	}
	s := framedScene(ins(impl.OReturn, 0), "self | / 2 6 self | 4")
	m, _ := impl.Step(s.Machine)
	if got := toldFrames(impl.Backtrace(m)); m.State != impl.MachError || got != "1 1 6" || !slices.Equal(impl.StackTexts(m), []string{"0", "0", "fn:1", "2", "6", "fn:1"}) {
		t.Error("stopped", m.State, got, impl.StackTexts(m))
	}
}
