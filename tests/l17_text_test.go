package tests

import (
	"fmt"
	"math"
	"math/rand"
	"slices"
	"strings"
	"testing"

	"loop.example/g00101/impl"
)

// textsOfEach has the text of each value that a scene may have on its stack.
func textsOfEach() map[string]string {
	return map[string]string{
		"nil": "nil", "yes": "true", "no": "false", "0": "0", "1": "1", "-1": "-1",
		"-9223372036854775808": "-9223372036854775808", "9223372036854775807": "9223372036854775807",
		"ab": "ab", "cd": "cd", "long": strings.Repeat("x", 159), "table": "table:5", "empty": "table:6",
		"self": "fn:1", "bare": "fn:2", "plain": "fn:3", "odd": "fn:4", "co": "co:7", "run": "co:8",
		"lib:1": "lib:1", "lib:11": "lib:11", "lib:12": "lib:12", "lib:20": "lib:20", "box": "box", "bin": "box",
	}
}

// checkStack: all that is on the stack, whatever is flipped and copied.
func checkStack(t *testing.T, name string, m impl.Machine, want ...string) {
	t.Helper()
	for i, m := range movedEach(m) {
		if got := impl.StackTexts(m); !slices.Equal(got, want) {
			t.Errorf("%s, moved %d times: the stack is %q, want %q", name, i, got, want)
		}
	}
	checkSeenMoved(t, name, m)
}

// checkLocals likewise.
func checkLocals(t *testing.T, name string, m impl.Machine, k int, want ...string) {
	t.Helper()
	for i, m := range movedEach(m) {
		if got := impl.Locals(m, k); !slices.Equal(got, want) {
			t.Errorf("%s, moved %d times: the locals of %d are %q, want %q", name, i, k, got, want)
		}
	}
	checkSeenMoved(t, name, m)
}

func TestStackTextsOfEach(t *testing.T) {
	all, texts := "self |", []string{"0", "0", "fn:1"}
	for v, text := range textsOfEach() {
		checkStack(t, v, sceneOf(ins(impl.ONil, 0), "self | "+v).Machine, "0", "0", "fn:1", text)
		checkStack(t, v+" as a slot", sceneOf(ins(impl.ONil, 0), "self "+v+" | cd").Machine, "0", "0", "fn:1", text, "cd")
		all += " " + v
		texts = append(texts, text)
	}
	checkStack(t, "all", sceneOf(ins(impl.ONil, 0), all).Machine, texts...)
	// From the bottom on, links and functions, too, up to StackCap.
	checkStack(t, "two frames", framedScene(ins(impl.ONil, 0), "self ab | 1 / 3 9 plain 2 box 3 | cd").Machine,
		"0", "0", "fn:1", "ab", "1", "3", "9", "fn:3", "2", "box", "3", "cd")
	full := append([]string{"0", "0", "fn:1"}, slices.Repeat([]string{"1"}, 57)...)
	checkStack(t, "full", sceneOf(ins(impl.ONil, 0), "self |"+ones(57)).Machine, full...)
}

// textMachine has these texts on its stack, each behind the one ahead.
func textMachine(texts ...string) impl.Machine {
	a := newArena(sceneSemi, 0)
	a.Roots = make([]impl.Val, 6)
	l := &layer{a.Words, 1}
	stack := []impl.Val{num(0), num(0), ref(impl.TFun, l.fun(1, 4))}
	for _, text := range texts {
		stack = append(stack, ref(impl.TStr, l.text(text)))
	}
	a.Roots[0] = ref(impl.TCo, l.co(2, [4]uint64{2, uint64(len(stack)), 3, 0}, impl.Val{}, stack...))
	a.Top, a.Serial = l.at, 3
	return impl.Machine{Module: sceneModule(ins(impl.ONil, 0), 0), Arena: a}
}

// Texts are any bytes, none to MaxText of them; what looks like another value is told as it is.
func TestStackTextsOfTexts(t *testing.T) {
	var bytes []byte
	for i := range 160 {
		bytes = append(bytes, byte(i*3))
	}
	texts := []string{"", "a", "=", "box", "=box", "nil", "table:5", "\x00", "\x00\x00", "\xff\xfe", "eight by", "nine byte", "ä€\n", "seven\x00\x00", strings.Repeat("\x00", 160), string(bytes), strings.Repeat("t", 159)}
	m := textMachine(texts...)
	checkStack(t, "texts", m, append([]string{"0", "0", "fn:1"}, texts...)...)
	// Proto 4 has 20 slots: these are its locals, too.
	checkLocals(t, "texts", m, 0, texts...)
}

// A program's own values, ahead of the return.
func TestSeenValuesOfAProgram(t *testing.T) {
	text := `local n = nil; local y = true; local f = false; local e = ""; local s = "some text"; local t = {}; local c = co(fn() { }); local p = print; local b = {}; local i = -9; local g = fn() { b = i; }; local u = nil; u = fn() { return u; };`
	m := booted(t, text, 900)
	m = there(t, m, 0, len(m.Module.Protos[0].Code)-1)
	checkStack(t, "values", m, "0", "0", "fn:1", "nil", "true", "false", "", "some text", "table:3", "co:5", "lib:1", "box", "box", "fn:7", "box", "nil")
	checkLocals(t, "values", m, 0, "nil", "true", "false", "", "some text", "table:3", "co:5", "lib:1", "=table:6", "=-9", "fn:7", "=fn:8")
}

// Nothing stands on the stack of a coroutine that is over; one whose base is below 3 has no frame to be told of.
func TestStackTextsWithoutFrames(t *testing.T) {
	for _, text := range []string{"", "error(1);", "local a = 1;"} {
		over, _ := impl.RunMachine(booted(t, text, 300), impl.MaxFuel)
		checkStack(t, "over", over)
		checkLocals(t, "over", over, 0)
	}
	for base := range 3 {
		for _, stack := range []string{"self |", "self 1 2 | 3", "plain 1 2 3 |"} {
			s := sceneOf(ins(impl.ONil, 0), stack)
			s.Words[s.place("run")+3] = uint64(base)
			checkStack(t, fmt.Sprint("base ", base), s.Machine)
			checkLocals(t, fmt.Sprint("base ", base), s.Machine, 0)
		}
	}
	s := sceneOf(ins(impl.ONil, 0), "self |")
	s.setStack("")
	s.Words[s.place("run")+3] = 0
	checkStack(t, "an empty stack", s.Machine)
	for _, v := range without(someOfEach(), "co", "run") {
		s := sceneOf(ins(impl.ONil, 0), "self 1 |")
		s.Roots[0] = s.val(v)
		checkStack(t, "the Root 0 is "+v, s.Machine)
		checkLocals(t, "the Root 0 is "+v, s.Machine, 0)
	}
}

// Locals are as many as the Proto has Slots, and no more than there are values.
func TestHowManyLocalsAreSeen(t *testing.T) {
	for stack, want := range map[string][]string{
		// Proto 1 has as many slots as its function has values behind it; Proto 3 has three.
		"self |":                     {""},
		"self | 1 2":                 {""},
		"self 1 |":                   {"1"},
		"self 1 2 3 | 4 5":           {"1 2 3"},
		"self" + ones(20) + " | 5":   {strings.TrimSpace(ones(20))},
		"plain |":                    {""},
		"plain 1 |":                  {"1"},
		"plain 1 2 |":                {"1 2"},
		"plain 1 2 3 |":              {"1 2 3"},
		"plain 1 | 2":                {"1 2"},
		"plain 1 2 3 | 4":            {"1 2 3"},
		"odd 1 2 |":                  {""},
		"nil 1 2 |":                  {""},
		"co 1 2 |":                   {""},
		"plain 1 2 3 4 / 3 5 self |": {"", "1 2 3"},
		// A frame's slots may go up into the frame above.
		"plain 1 / 3 5 self |":                       {"", "1 3 5"},
		"plain / 3 5 self |":                         {"", "3 5 fn:1"},
		"plain ab / 3 4 plain 7 / 7 9 odd 5 6 |":     {"", "7 7 9", "ab 3 4"},
		"plain 1 2 3 / 3 4 odd 5 / 9 6 plain box 5 ": {"=7 5", "", "1 2 3"},
		"plain 1 2 3 / 3 4 plain 4 5 6 / 2 6 odd 5 ": {""},
	} {
		m := framedScene(ins(impl.ONil, 0), stack).Machine
		for k := -2; k < len(want)+2; k++ {
			line := ""
			if k >= 0 && k < len(want) {
				line = want[k]
			}
			checkLocals(t, stack, m, k, strings.Fields(line)...)
		}
		for _, k := range []int{math.MinInt, math.MinInt + 1, 60, 4000, 1 << 32, math.MaxInt - 1, math.MaxInt} {
			checkLocals(t, stack, m, k)
		}
	}
	// Proto 4 has 20 slots: they end at the top of the stack.
	for values := range 25 {
		s := sceneOf(ins(impl.ONil, 0), "odd |"+ones(values))
		s.Words[s.place("odd")+1] = 4
		checkLocals(t, fmt.Sprint(values, " values"), s.Machine, 0, slices.Repeat([]string{"1"}, min(values, 20))...)
	}
	// The last ones that a stack may have.
	s := framedScene(ins(impl.ONil, 0), "self |"+ones(50)+" / 3 5 plain 7 8 |")
	checkLocals(t, "at the end", s.Machine, 0, "7", "8")
	s = framedScene(ins(impl.ONil, 0), "self |"+ones(54)+" / 3 5 plain |")
	checkLocals(t, "behind the end", s.Machine, 0)
}

// Of a box what it has, but not what a box has that it has.
func TestLocalsThatAreBoxes(t *testing.T) {
	for v, text := range textsOfEach() {
		s := sceneOf(ins(impl.ONil, 0), "self box 5 bin |")
		s.lay("box.0=" + v)
		checkLocals(t, "a box of "+v, s.Machine, 0, "="+text, "5", "=ab")
		checkStack(t, "a box of "+v, s.Machine, "0", "0", "fn:1", "box", "5", "box")
		// What stands above the slots, and in another frame.
		s = framedScene(ins(impl.ONil, 0), "plain box bin "+v+" | 1 / 3 5 self bin | box")
		s.lay("bin.0=" + v)
		own := text
		switch v {
		case "bin":
			own = "=box"
		case "box":
			own = "=7"
		}
		checkLocals(t, "a box of "+v, s.Machine, 0, "="+text)
		checkLocals(t, "a box of "+v, s.Machine, 1, "=7", "="+text, own)
	}
}

// What is seen of programs and of broken machines by chance, as the model has it, wherever a cycle is.
func TestSeenByChance(t *testing.T) {
	t.Parallel()
	r := rand.New(rand.NewSource(171))
	deep, boxes, caught, odd := 0, 0, 0, 0
	look := func(name string, m impl.Machine) {
		checkSeen(t, name, m)
		frames := impl.Backtrace(m)
		for k, f := range frames {
			boxes += strings.Count(strings.Join(impl.Locals(m, k), " "), "=")
			if f.Caught {
				caught++
			}
			if f.Proto < 0 {
				odd++
			}
		}
		if len(frames) > 2 {
			deep++
		}
	}
	for range 80 {
		module, text := someModule(r, 3+r.Intn(10))
		m := bootOf(t, module, impl.MinSemi+r.Intn(600))
		for n := 0; n < 120 && m.State == 0; n++ {
			m = movedBy(r, m)
			look(text, m)
			m, _ = impl.Step(m)
		}
	}
	for range 1500 {
		m := looseMachine(r)
		for n := 0; n < 6; n++ {
			m = movedBy(r, m)
			look("a loose machine", m)
			m, _ = impl.Step(m)
		}
	}
	for range 300 {
		look("a machine by chance", someMachine(r))
	}
	if deep < 300 || boxes < 1000 || caught < 300 || odd < 100 {
		t.Error("too few:", deep, "deep,", boxes, "boxes,", caught, "caught,", odd, "without a Proto")
	}
}

// Promise 17: what is seen is the same ahead of a flip, at each step of copying, and behind a collection.
func TestSeenIsTheSameWhereverItLies(t *testing.T) {
	t.Parallel()
	r := rand.New(rand.NewSource(172))
	frames := 0
	for range 25 {
		module, text := someModule(r, 3+r.Intn(10))
		m := bootOf(t, module, 400+r.Intn(600))
		for n := 0; n < 100 && m.State == 0; n++ {
			if n%4 == 0 {
				frames += checkSeenMoved(t, text, m)
			}
			m, _ = impl.Step(m)
		}
	}
	for range 250 {
		frames += checkSeenMoved(t, "a loose machine", looseMachine(r))
	}
	if frames < 1000 {
		t.Error("only", frames, "frames")
	}
}

// checkSeenAlong: a machine that was flipped ahead of a Step has the same to be seen from there on, though what it writes stands in copies alone.
func checkSeenAlong(t *testing.T, text string, m impl.Machine, steps int) {
	t.Helper()
	x, _ := impl.FlipNow(m)
	for range steps {
		if m.State != 0 {
			return
		}
		m, _ = impl.Step(m)
		x, _ = impl.Step(x)
		if got, want := seen(x), seen(m); got != want || seen(worn(x)) != want {
			t.Fatalf("%s: behind %d steps there is seen\n%s\nwant\n%s", text, m.Steps, got, want)
		}
	}
}

// A box that was copied and set since may be known by its old place still, and a function below one base that was copied by way of another one.
func TestSeenBehindWhatIsSet(t *testing.T) {
	t.Parallel()
	r := rand.New(rand.NewSource(178))
	for _, text := range []string{
		`local n = 5; local up = fn() { n = n + 1; }; up(); up(); n = n * 2; up();`,
		`local n = 5; local see = fn(x) { local y = n; local set = fn(z) { n = z; y = z + 1; }; set(x); return y + n; }; print(see(9)); print(pcall(see, 1));`,
		`local a = "text"; local f = fn(x) { a = x; x = a; return fn() { x = {x}; a = x; return a; }; }; local g = f("other"); g(); g(); print(f(g));`,
		`local n = 0; local c = co(fn(x) { while x { n = n + x; local k = n; local up = fn() { k = k + 1; n = k; }; up(); x = yield(k); } return n; }); resume(c, 1); resume(c, 2); n = 40; resume(c, 3); resume(c);`,
		`local f = nil; f = fn(n) { if n == 0 { return f; } local g = f(n - 1); return g; }; print(f(4)); pcall(f, 2);`,
	} {
		m := booted(t, text, 900)
		for m.State == 0 {
			checkSeenAlong(t, text, m, 12)
			m, _ = impl.Step(m)
		}
	}
	for range 30 {
		module, text := someModule(r, 3+r.Intn(10))
		m := bootOf(t, module, 600+r.Intn(600))
		for n := 0; n < 20 && m.State == 0; n++ {
			checkSeenAlong(t, text, m, 8)
			m, _ = impl.RunMachine(m, 1+r.Intn(12))
		}
	}
}
