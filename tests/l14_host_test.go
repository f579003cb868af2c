package tests

import (
	"fmt"
	"math"
	"slices"
	"strings"
	"testing"

	"loop.example/g00101/impl"
)

func TestActConstants(t *testing.T) {
	if impl.MaxActs != 60 || impl.ActRun != 1 || impl.ActFlip != 2 || impl.ActCopy != 3 || impl.ActCollect != 4 {
		t.Error("constants")
	}
}

// Seven steps, and what the half in use has behind each act.
func TestScriptByHand(t *testing.T) {
	text := "print(1);"
	for _, x := range []struct {
		acts  []impl.Act
		steps int
		out   string
		state int
		to    int
		cycle bool
		top   int // from the beginning of the half on
	}{
		{nil, 0, "", 0, 0, false, 129},
		{acts(runs(0)), 0, "", 0, 0, false, 129},
		{acts(runs(3)), 3, "", 0, 0, false, 129},
		{acts(runs(4)), 4, "1", 0, 0, false, 129},
		{acts(runs(6)), 6, "1", 0, 0, false, 129},
		{acts(runs(7)), 7, "1", impl.MachDone, 0, false, 129},
		{acts(runs(8)), 7, "1", impl.MachDone, 0, false, 129},
		{acts(runs(3), runs(0), runs(3)), 6, "1", 0, 0, false, 129},
		{acts(flips()), 0, "", 0, 1, true, 127},
		{acts(flips(), flips()), 0, "", 0, 1, true, 127},
		{acts(flips(), copies(0)), 0, "", 0, 1, true, 127},
		{acts(flips(), copies(1)), 0, "", 0, 1, true, 129},
		{acts(flips(), copies(2)), 0, "", 0, 1, false, 129},
		{acts(flips(), copies(1), copies(1)), 0, "", 0, 1, false, 129},
		{acts(flips(), copies(4000), flips()), 0, "", 0, 0, true, 127},
		{acts(copies(5)), 0, "", 0, 0, false, 129},
		{acts(collects()), 0, "", 0, 1, false, 129},
		{acts(collects(), collects()), 0, "", 0, 0, false, 129},
		{acts(flips(), collects()), 0, "", 0, 0, false, 129},
		{acts(runs(5), flips(), copies(1), runs(2), collects()), 7, "1", impl.MachDone, 0, false, 127},
	} {
		m := hosted(t, text, 256, x.acts...)
		if m.Steps != x.steps || strings.Join(m.Out, " ") != x.out || m.State != x.state || m.To != x.to || m.Cycle != x.cycle || m.Top-256*m.To-1 != x.top {
			t.Errorf("%v: steps %d out %q state %d to %d cycle %v top %d", x.acts, m.Steps, m.Out, m.State, m.To, m.Cycle, m.Top-256*m.To-1)
		}
		checkHost(t, text, 256, x.acts)
	}
}

// Without acts it is what was booted.
func TestScriptsWithoutActs(t *testing.T) {
	for _, text := range []string{"", " -- nothing", "print(1);", "error(1);", "local a = 1; return fn() { return a; };"} {
		for _, semi := range []int{256, 257, 3999, 4000} {
			for _, list := range [][]impl.Act{nil, {}} {
				if m := hosted(t, text, semi, list...); !sameMachine(m, booted(t, text, semi)) {
					t.Errorf("%q in %d is not what was booted", text, semi)
				}
			}
		}
	}
}

// scriptText is a text that is refused or not, with what Host answers of it in a right size with right acts.
type scriptText struct {
	name string
	text string
	code int
	at   int
}

func scriptTexts() []scriptText {
	many := "local " + strings.Join(strings.Fields(namesUpTo(21)), " = 1; local ") + " = 1;"
	return []scriptText{
		{"right", "print(1);", 0, 0},
		{"nothing", "", 0, 0},
		{"no statement", "x", 1, 1},
		{"no token", "print(1); ~", 1, 10},
		{"a text without an end", `print("`, 1, 6},
		{"an end too early", "while true {", 1, 12},
		{"3001 bytes", strings.Repeat(" ", 3001), 1, 0},
		{"too deep", "return " + strings.Repeat("(", 40) + "1" + strings.Repeat(")", 40) + ";", 1, 37},
		{"no token, and a name that is none", "print(y); ~", 1, 10},
		{"no statement, and a name that is none", "print(y); x", 1, 11},
		{"a name that is none", "print(y);", 2, 1},
		{"a set name that is none", "local a = 1; b = a;", 2, 3},
		{"a library name that is set", "print = 1;", 2, 1},
		{"21 locals", many, 3, 41},
		{"21 locals, then a name that is none", many + " print(y);", 3, 41},
		{"a name that is none, then 21 locals", "print(y); " + many, 2, 1},
	}
}

// The text is asked first, whatever the size and the acts are.
func TestWhichRefusalOfAScriptComesFirst(t *testing.T) {
	rightActs := map[string][]impl.Act{"none": nil, "some": acts(runs(9), flips(), copies(2), collects())}
	wrong := wrongActs()
	for _, s := range scriptTexts() {
		for semi, rightSize := range map[int]bool{255: false, 256: true, 300: true, 4000: true, 4001: false, 0: false, -1: false, math.MinInt: false, math.MaxInt: false} {
			check := func(name string, list []impl.Act, rightList bool) {
				t.Helper()
				code, at := s.code, s.at
				if code == 0 && !(rightSize && rightList) {
					code = 4
				}
				m, c, n := impl.Host(s.text, semi, list)
				if c != code || n != at {
					t.Errorf("%s in %d with %s: %d %d, want %d %d", s.name, semi, name, c, n, code, at)
				}
				if refused := sameMachine(m, impl.Machine{}); refused != (code != 0) {
					t.Errorf("%s in %d with %s: %d with the machine\n%s", s.name, semi, name, c, toldMachine(m))
				}
			}
			for name, list := range rightActs {
				check(name, list, true)
			}
			for name, list := range wrong {
				check(name, list, false)
			}
		}
	}
}

// Parse's place and Compile's node are handed on as they are.
func TestPlacesOfRefusals(t *testing.T) {
	for _, s := range scriptTexts() {
		checkHost(t, s.text, 300, nil)
	}
	for text := range 256 {
		checkHost(t, "print(1); "+string([]byte{byte(text)}), 300, nil)
	}
	for _, top := range []twig{
		tBlock(nowhere()), tBlock(tReturn(within(3, nowhere()))), tBlock(locals(20)...), tBlock(locals(21)...), tBlock(append(locals(20), nowhere())...), tBlock(append(locals(21), nowhere())...),
		tBlock(tDo(tCall(tName("print"), times(40, func(int) twig { return tNil() })...))), tBlock(tDo(tCall(tName("print"), times(41, func(int) twig { return tNil() })...))),
		tBlock(long(4096)), tBlock(tReturn(fnOf(namesUpTo(21)))),
	} {
		text, ok := impl.Print(top.tree())
		if !ok {
			t.Fatal("not printed")
		}
		checkHost(t, text, 300, nil)
	}
}

func repeatedActs(n int, a impl.Act) []impl.Act { return slices.Repeat(acts(a), n) }

func TestHowManyActs(t *testing.T) {
	text := "local i = 0; while true { i = i + 1; }"
	for kind := 1; kind <= 4; kind++ {
		for _, n := range []int{0, 1, 2, 7} {
			one := impl.Act{Kind: kind, N: n}
			for _, count := range []int{1, 2, 59, 60} {
				m := checkHost(t, text, 300, repeatedActs(count, one))
				if kind == 1 && m.Steps != n*count || m.State != 0 {
					t.Error(one, count, m.Steps, m.State)
				}
			}
			for _, count := range []int{61, 62, 1000} {
				if m, code, at := impl.Host(text, 300, repeatedActs(count, one)); code != 4 || at != 0 || !sameMachine(m, impl.Machine{}) {
					t.Error(one, count, "are not refused:", code, at)
				}
			}
		}
	}
	// As many steps as there may be.
	if m := hosted(t, text, 300, repeatedActs(60, runs(4000))...); m.Steps != 240000 || m.State != 0 {
		t.Error("all", m.Steps, m.State)
	}
}

func TestKindsOfActs(t *testing.T) {
	text := "print(1);"
	for kind := -3; kind <= 8; kind++ {
		right := kind >= 1 && kind <= 4
		for _, n := range []int{-1, 0, 1, 4000, 4001, math.MinInt, math.MaxInt} {
			code := 4
			if right && n >= 0 && n <= 4000 {
				code = 0
			}
			for _, list := range [][]impl.Act{
				{{Kind: kind, N: n}},
				{runs(7), {Kind: kind, N: n}},             // behind the machine's end
				{runs(4000), flips(), {Kind: kind, N: n}}, // and behind a flip
				{{Kind: kind, N: n}, runs(1)},
			} {
				m, c, at := impl.Host(text, 300, list)
				if c != code || at != 0 || (code != 0) != sameMachine(m, impl.Machine{}) {
					t.Errorf("%v: %d %d", list, c, at)
				}
				checkHost(t, text, 300, list)
			}
		}
	}
}

// What N says where there is no use for it: nothing.
func TestFlipsAndCollectionsHaveNoUseForN(t *testing.T) {
	text := `local t = {1, "x"}; t = {t}; print(#t);`
	for _, kind := range []int{impl.ActFlip, impl.ActCollect} {
		want := hosted(t, text, 300, runs(9), impl.Act{Kind: kind}, runs(9))
		for _, n := range []int{1, 2, 3999, 4000} {
			if m := hosted(t, text, 300, runs(9), impl.Act{Kind: kind, N: n}, runs(9)); !sameMachine(m, want) {
				t.Error(kind, n, "another machine")
			}
		}
	}
}

// Behind its end nothing more is run; what is in use may still be moved.
func TestActsBehindTheEnd(t *testing.T) {
	for _, text := range []string{"print(1);", "local t = {1, 2}; error(t);", "error(5);", "local t = {{}}; return fn() { return t; };"} {
		for _, semi := range []int{256, 1000} {
			over := hosted(t, text, semi, runs(4000))
			if over.State == 0 {
				t.Fatal(text, "is not over")
			}
			for _, list := range [][]impl.Act{
				acts(runs(1)), acts(runs(4000), runs(0), runs(4000)), acts(flips(), runs(1)), acts(flips(), copies(1), runs(9)), acts(flips(), runs(1), copies(4000), runs(1)),
				acts(collects(), runs(1)), acts(copies(3), runs(1), flips(), flips(), runs(2), collects(), runs(3), flips()),
			} {
				want := over
				for _, a := range list {
					if a.Kind != impl.ActRun {
						want = modelAct(want, a)
					}
				}
				m := hosted(t, text, semi, append(acts(runs(4000)), list...)...)
				if !sameMachine(m, want) || m.Steps != over.Steps || told(t, m) != told(t, over) {
					t.Errorf("%s in %d with %v:\n%s\nwant\n%s", text, semi, list, toldMachine(m), toldMachine(want))
				}
			}
		}
	}
}

// So many steps in one act, or in many.
func TestRunsInParts(t *testing.T) {
	text := `local t = {}; local i = 0; while i < 6 { i = i + 1; t[i] = {i}; print(t[i][1]); } error("x");`
	for _, semi := range []int{300, 2000} {
		whole := hosted(t, text, semi, runs(4000))
		for n := 0; n <= whole.Steps+1; n += 7 {
			want := hosted(t, text, semi, runs(n))
			if want.Steps != min(n, whole.Steps) {
				t.Fatal(n, want.Steps)
			}
			for cut := 0; cut <= n; cut += 5 {
				if m := hosted(t, text, semi, runs(cut), runs(0), runs(n-cut)); !sameMachine(m, want) {
					t.Fatalf("%d and %d are not %d", cut, n-cut, n)
				}
			}
		}
	}
}

func TestPlain(t *testing.T) {
	other := acts(flips(), copies(3), collects(), impl.Act{}, impl.Act{Kind: 5, N: 1}, impl.Act{Kind: -1, N: 1}, impl.Act{Kind: math.MinInt}, impl.Act{Kind: math.MaxInt})
	some := acts(runs(1), runs(0), runs(4000), runs(1), runs(4001), runs(-1), runs(math.MinInt), runs(math.MaxInt))
	var mixed []impl.Act
	for i := range some {
		mixed = append(mixed, other[i], some[i], other[len(other)-1-i])
	}
	for name, x := range map[string]struct{ list, want []impl.Act }{
		"nothing":         {nil, nil},
		"an empty list":   {acts(), nil},
		"none":            {other, nil},
		"all":             {some, some},
		"mixed":           {mixed, some},
		"one":             {acts(flips(), runs(7)), acts(runs(7))},
		"more than 60":    {slices.Repeat(mixed, 30), slices.Repeat(some, 30)},
		"alike, in order": {acts(runs(2), flips(), runs(2), runs(1), runs(2)), acts(runs(2), runs(2), runs(1), runs(2))},
	} {
		list := append(slices.Clone(x.list), runs(77), flips())
		got := impl.Plain(list[:len(x.list)])
		if !slices.Equal(got, x.want) {
			t.Errorf("%s: %v, want %v", name, got, x.want)
		}
		again := impl.Plain(list[:len(x.list)])
		if memoryOf(got).meets(memoryOf(list)) || memoryOf(got).meets(memoryOf(again)) {
			t.Errorf("%s: the answer shares memory", name)
		}
		clear(got[:cap(got)])
		if !slices.Equal(list, append(slices.Clone(x.list), runs(77), flips())) || !slices.Equal(again, x.want) {
			t.Errorf("%s: written into", name)
		}
		if twice := impl.Plain(again); !slices.Equal(twice, again) {
			t.Errorf("%s: plain twice %v", name, twice)
		}
	}
}

// checkScriptsStay: nothing is written into the acts, nor behind them, and no two answers share memory, nor with the text.
func checkScriptsStay(t *testing.T, text string, semi int, list []impl.Act) {
	t.Helper()
	roomy := append(slices.Clone(list), runs(77), flips())
	in := roomy[:len(list)]
	one, code, at := impl.Host(text, semi, in)
	two, _, _ := impl.Host(text, semi, in)
	if !slices.Equal(roomy, append(slices.Clone(list), runs(77), flips())) {
		t.Fatalf("%s with %v: written into", text, list)
	}
	if !sameMachine(one, two) {
		t.Fatalf("%s with %v: it hangs on something else", text, list)
	}
	checkApart(t, fmt.Sprint(text, list), one, two)
	for _, part := range textsIn(one) {
		if sharesBytes(part, text) {
			t.Fatalf("%s with %v: %q lies in the text", text, list, part)
		}
	}
	wipe(one)
	three, c, n := impl.Host(text, semi, in)
	if !sameMachine(two, three) || c != code || n != at {
		t.Fatalf("%s with %v: an answer shares memory", text, list)
	}
}
