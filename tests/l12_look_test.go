package tests

import (
	"fmt"
	"math"
	"math/rand"
	"slices"
	"strings"
	"testing"

	"loop.example/g00101/impl"
)

func TestTypeOf(t *testing.T) {
	names := []string{"nil", "bool", "int", "text", "table", "fn", "co", "fn", "", ""}
	for tag := -3; tag < 14; tag++ {
		for _, n := range []int{math.MinInt, -2, -1, 0, 1, 2, 7, 19, 20, 21, 4000, 8000, 1 << 31, 1 << 40, math.MaxInt} {
			v := impl.Val{Tag: tag, N: n}
			want := ""
			if impl.ValOk(v) && tag >= 0 && tag < len(names) {
				want = names[tag]
			}
			if got := impl.TypeOf(v); got != want {
				t.Errorf("the type of %v is %q, want %q", v, got, want)
			}
		}
	}
	for v, want := range map[impl.Val]string{
		{}: "nil", {N: 1}: "", yes(): "bool", {Tag: impl.TBool}: "bool", {Tag: impl.TBool, N: 2}: "", num(math.MinInt): "int", num(0): "int",
		ref(impl.TStr, 1): "text", ref(impl.TStr, 0): "", ref(impl.TTab, 9): "table", ref(impl.TTab, -1): "", ref(impl.TFun, 9): "fn", ref(impl.TFun, 0): "",
		ref(impl.TCo, 9): "co", ref(impl.TCo, 0): "", {Tag: impl.TLib, N: 1}: "fn", {Tag: impl.TLib, N: 11}: "fn", {Tag: impl.TLib, N: 20}: "fn", {Tag: impl.TLib, N: 21}: "", {Tag: impl.TLib}: "",
		ref(impl.TBlk, 9): "", ref(impl.TCell, 9): "", {Tag: 10}: "", {Tag: -1}: "",
	} {
		if got := impl.TypeOf(v); got != want {
			t.Errorf("the type of %v is %q, want %q", v, got, want)
		}
	}
}

// checkDepth: looked at without a cycle, in one, and behind a collection.
func checkDepth(t *testing.T, name string, m impl.Machine, want int) {
	t.Helper()
	flipped, _ := impl.FlipNow(m)
	copied, _ := impl.CopyNow(flipped, 1)
	collected, _ := impl.CollectNow(m)
	for i, m := range []impl.Machine{m, flipped, copied, collected} {
		if got := impl.DeepOf(m); got != want {
			t.Errorf("%s, %d: %d frames, want %d", name, i, got, want)
		}
	}
}

func TestDepths(t *testing.T) {
	for frames, want := range map[string]int{
		"self 1 | 2":                                       1,
		"self | / 3 4 self | 5":                            2,
		"self | / 3 4 self | / 6 1 self |":                 3,
		"self | / 3 4 self | / 3 1 self |":                 2,
		"self | / 3 0 self | / 6 8191 self | / 9 2 self |": 4,
		// Until one is 3, or something else than a link stands there.
		"self | / 2 4 self |":                  1,
		"self | / 4 4 self |":                  1,
		"self | / nil 4 self |":                1,
		"self | / ab 4 self |":                 1,
		"self | / 3 -1 self |":                 1,
		"self | / 3 8192 self |":               1,
		"self | / 3 yes self |":                1,
		"self | / 7 4 self | / 6 1 self |":     2,
		"self | / 3 4 self | / 0 1 self |":     1,
		"self | / 3 box self | / 6 1 self |":   2,
		"self | / 3 4 self | / 5 1 self |":     2,
		"self | 1 2 / 3 4 self | / 8 1 self |": 3,
		"self | 1 2 / 3 4 self | / 7 1 self |": 2,
	} {
		checkDepth(t, frames, framedScene(ins(impl.ONil, 0), frames).Machine, want)
	}
	for base := range 7 {
		s := framedScene(ins(impl.ONil, 0), "self 1 | 2 3 4")
		s.Words[s.place("run")+3] = uint64(base)
		// With 6 there stand 0 and 1 below, which are no links of it.
		checkDepth(t, fmt.Sprint("base ", base), s.Machine, min(base/3, 1))
	}
	for _, v := range someOfEach() {
		s := framedScene(ins(impl.ONil, 0), "self 1 | 2")
		s.Roots[0] = s.val(v)
		want := 0
		if v == "run" || v == "co" {
			want = 1
		}
		checkDepth(t, "the Root 0 is "+v, s.Machine, want)
	}
	// The whole stack may be frames: 20 of them.
	deep := "self |"
	for base := 3; base < 60; base += 3 {
		deep += fmt.Sprint(" / ", base, " 2 self |")
	}
	checkDepth(t, "many", framedScene(ins(impl.ONil, 0), deep).Machine, 20)
}

// The depth of a program while it runs, step by step.
func TestDepthsOfAProgram(t *testing.T) {
	m := booted(t, "local f = fn(a) { return a; }; local g = fn(a) { return f(a); }; pcall(g, 1); resume(co(g), 2);", 700)
	var seen []string
	for m.State == 0 {
		if n := fmt.Sprint(impl.DeepOf(m)); len(seen) == 0 || seen[len(seen)-1] != n {
			seen = append(seen, n)
		}
		m, _ = impl.Step(m)
	}
	if got := strings.Join(seen, " "); got != "1 2 3 2 1 2 1" || impl.DeepOf(m) != 0 {
		t.Error("depths", got, impl.DeepOf(m))
	}
}

func TestStatuses(t *testing.T) {
	m := booted(t, `local a = co(fn(x) { yield(1); return 0; }); local b = co(fn(x) { return resume(a, x); }); resume(b, 1); resume(a, 2);
local c = nil; c = co(fn(x) { local d = co(fn(y) { print(7); return 0; }); return resume(d, x); }); resume(c, 1); a = nil; b = nil;`, 1500)
	var seen []string
	for {
		for _, moved := range []func(m impl.Machine) impl.Machine{
			func(m impl.Machine) impl.Machine { return m },
			func(m impl.Machine) impl.Machine { m, _ = impl.FlipNow(m); return m },
			func(m impl.Machine) impl.Machine { m, _ = impl.FlipNow(m); m, _ = impl.CopyNow(m, 2); return m },
			func(m impl.Machine) impl.Machine { m, _ = impl.CollectNow(m); return m },
		} {
			if !slices.Equal(impl.Statuses(moved(m)), impl.Statuses(m)) {
				t.Error("moved", impl.Statuses(moved(m)), impl.Statuses(m))
			}
		}
		if n := strings.Trim(fmt.Sprint(impl.Statuses(m)), "[]"); len(seen) == 0 || seen[len(seen)-1] != n {
			seen = append(seen, n)
		}
		if m.State != 0 {
			break
		}
		m, _ = impl.Step(m)
	}
	want := []string{
		"2", "2 0", "2 0 0", // the Top, then a, then b
		"4 0 2", "4 2 4", // b is resumed, then a by it
		"4 1 2", "2 1 3", // a yields to b, which returns
		"4 2 3", "2 3 3", // a is resumed by the Top, and returns
		"2 3 3 0", "4 3 3 2", "4 3 3 2 0", "4 3 3 4 2", "4 3 3 2 3", // c, and d by it
		"2 3 3 3", "2 3 3", "2 3", "3", // d is held by c alone, which is over; then a and b are gone, and all
	}
	if !slices.Equal(seen, want) {
		t.Errorf("statuses %q, want %q", seen, want)
	}
}

// modelStatuses looks for coroutines from the Roots on, in no order of its own.
func modelStatuses(a impl.Arena) []int {
	seen := map[int]bool{}
	statuses := map[int]int{}
	var serials []int
	work := slices.Clone(a.Roots)
	for len(work) > 0 {
		v := work[len(work)-1]
		work = work[:len(work)-1]
		if !impl.IsRef(v) {
			continue
		}
		at := v.N
		if to, moved := impl.Forwarded(a.Words[at]); moved {
			at = to
		}
		if seen[at] {
			continue
		}
		seen[at] = true
		h, _ := impl.ReadHead(a.Words[at])
		if h.Kind == impl.KCo {
			serials = append(serials, h.Serial)
			statuses[h.Serial] = int(a.Words[at+1])
		}
		for _, slot := range impl.Slots(h.Kind, h.Size) {
			v, _ := impl.GetVal(a.Words, at+slot)
			work = append(work, v)
		}
	}
	slices.Sort(serials)
	var list []int
	for _, serial := range serials {
		list = append(list, statuses[serial])
	}
	return list
}

func TestStatusesByChance(t *testing.T) {
	t.Parallel()
	r := rand.New(rand.NewSource(126))
	many := 0
	for range 600 {
		m := looseMachine(r)
		for range 4 {
			m = movedBy(r, m)
			got, want := impl.Statuses(m), modelStatuses(m.Arena)
			if !slices.Equal(got, want) {
				t.Fatalf("statuses %v, want %v of\n%s", got, want, toldMachine(m))
			}
			if len(got) > 2 {
				many++
			}
			m, _ = impl.Step(m)
		}
	}
	if many < 100 {
		t.Error("only", many, "with several coroutines")
	}
}
