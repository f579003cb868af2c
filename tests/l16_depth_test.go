package tests

import (
	"fmt"
	"math"
	"math/big"
	"math/rand"
	"slices"
	"strconv"
	"strings"
	"testing"

	"loop.example/g00101/impl"
)

// codeOf reads instructions with commas between; 'none' and a number is one whose Op is none. An A that is not there is 0.
func codeOf(text string) []impl.Ins {
	var code []impl.Ins
	for _, one := range strings.Split(text, ",") {
		words := strings.Fields(one)
		if len(words) == 0 {
			continue
		}
		a := 0
		if len(words) > 1 {
			a, _ = strconv.Atoi(words[1])
		}
		op := slices.Index(opWords, words[0])
		if words[0] == "none" {
			op = 28
		}
		if op < 0 {
			panic("no instruction: " + one)
		}
		code = append(code, ins(op, a))
	}
	return code
}

// checkTold: Jumps and Depths of this code are just these, whatever else the Proto has.
func checkTold(t *testing.T, code string, jumps string, depths string) {
	t.Helper()
	for _, p := range []impl.Proto{{}, {Params: 2, Slots: 7, Ups: []impl.Up{{Local: true, Index: 3}}}, {Params: -1, Slots: math.MinInt}} {
		p.Code = codeOf(code)
		if got := strings.Trim(fmt.Sprint(impl.Jumps(p)), "[]"); got != jumps {
			t.Errorf("%s: jumps %s, want %s", code, got, jumps)
		}
		if got := strings.Trim(fmt.Sprint(impl.Depths(p)), "[]"); got != depths {
			t.Errorf("%s: depths %s, want %s", code, got, depths)
		}
		checkPlaces(t, code, p)
	}
}

func TestJumpsByHand(t *testing.T) {
	checkTold(t, "", "", "")
	checkTold(t, "nil, return", "", "0 1")
	checkTold(t, "jump 1, return", "1", "0 0")
	// To one place, by each of the four.
	checkTold(t, "nil, jumpnot 5, nil, and 5, jump 5, return", "5", "0 1 0 1 0 0")
	checkTold(t, "nil, or 3, jump 3, return", "3", "0 1 0 1")
	// Not in order in the code.
	checkTold(t, "nil, jumpnot 4, jump 3, jump 5, jump 2, return", "2 3 4 5", "0 1 0 0 0 0")
	checkTold(t, "jump 2, jump 0, jump 1", "0 1 2", "0 0 0")
	// Outside of the code, and below 0.
	checkTold(t, "jump 1", "1", "0")
	checkTold(t, "jump -1, return", "-1", "0 -1")
	checkTold(t, "nil, jumpnot 99, nil, or -7, return", "-7 99", "0 1 0 1 0")
	checkTold(t, "jump 9223372036854775807", "9223372036854775807", "0")
	checkTold(t, "jump -9223372036854775808", "-9223372036854775808", "0")
	checkTold(t, "jump -9223372036854775808, and 9223372036854775807, or -9223372036854775808, jumpnot 0", "-9223372036854775808 0 9223372036854775807", "0 -1 -1 -1")
	checkTold(t, "jump 10, jump 9, jump 8, jump 9, jump 100, jump 10", "8 9 10 100", "0 -1 -1 -1 -1 -1")
	// Others have an A that is no place.
	checkTold(t, "int 5, fn 3, local 2, call 1, none 7, return 4", "", "0 1 2 3 0 0")
	// Code that is never come to has jumps, too.
	checkTold(t, "return, jump 0, and 1, or 2, jumpnot 3", "0 1 2 3", "0 -1 -1 -1 -1")
}

// Of each instruction by itself: how many values stand behind it where four stood ahead; the document's rows.
func TestDepthBehindEachInstruction(t *testing.T) {
	behind := map[string]int{
		"nil": 5, "bool": 5, "int": 5, "text": 5, "local": 5, "boxed": 5, "up": 5, "fn": 5, "tab": 5, "dup": 5, "lib": 5, "mark": 6,
		"set": 3, "setbox": 3, "setup": 3, "pop": 3, "jumpnot": 3, "index": 3, "op": 3, "and": 3, "or": 3, "put": 1, "box": 4, "turn": 4, "none": 4,
		"call 0": 2, "call 1": 1, "call 2": 0, "call 3": -1, "call 4": -1, "call -1": 3, "call -2": 4, "call -3": 5, "call -10": 12,
		"return": -1, "jump": -1,
	}
	for word, want := range behind {
		if len(strings.Fields(word)) == 1 {
			word += " 0"
		}
		checkTold(t, "nil, nil, nil, nil, "+word+", return", strings.Trim(fmt.Sprint(impl.Jumps(impl.Proto{Code: codeOf(word)})), "[]"), fmt.Sprint("0 1 2 3 4 ", want))
	}
	for _, word := range opWords[1:] {
		if _, there := behind[word]; !there && word != "call" {
			t.Error(word, "is not looked at")
		}
	}
	// Where they jump to.
	for word, want := range map[string]int{"jump": 4, "jumpnot": 3, "and": 4, "or": 4} {
		on := behind[word]
		checkTold(t, "nil, nil, nil, nil, "+word+" 6, return, return", "6", fmt.Sprint("0 1 2 3 4 ", on, " ", want))
	}
	// What is no instruction takes and lays nothing, and goes on.
	for _, op := range []int{-1, 0, 28, 29, 99, math.MinInt, math.MaxInt} {
		p := impl.Proto{Code: []impl.Ins{ins(impl.ONil, 0), ins(op, 5), ins(op, math.MaxInt), ins(op, -1), ins(impl.OReturn, 0)}}
		if got := impl.Depths(p); !slices.Equal(got, []int{0, 1, 1, 1, 1}) {
			t.Error("of the Op", op, got)
		}
		if got := impl.Jumps(p); len(got) != 0 {
			t.Error("of the Op", op, "jumps", got)
		}
	}
}

// Each time who came first is gone on from first: going on comes ahead of the jump.
func TestDepthsOfTwoWays(t *testing.T) {
	// The jump is there ahead of the way that goes on twice.
	checkTold(t, "nil, jumpnot 3, nil, return", "3", "0 1 0 0")
	checkTold(t, "nil, jumpnot 4, nil, nil, return", "4", "0 1 0 1 0")
	checkTold(t, "nil, and 3, nil, return", "3", "0 1 0 1")
	checkTold(t, "nil, or 4, nil, nil, return", "4", "0 1 0 1 1")
	// Both come at once: going on is the first one.
	checkTold(t, "nil, and 2, return", "2", "0 1 0")
	checkTold(t, "nil, or 2, nil, return", "2", "0 1 0 1")
	checkTold(t, "nil, jumpnot 2, return", "2", "0 1 0")
	// Two ways of one length: who was come to first leads there first.
	checkTold(t, "nil, jumpnot 4, jump 6, return, nil, nil, return", "4 6", "0 1 0 -1 0 1 0")
	checkTold(t, "nil, jumpnot 4, nil, jump 6, mark, nil, return", "4 6", "0 1 0 1 0 2 1")
	checkTold(t, "nil, jumpnot 4, nil, jump 7, mark, jump 7, return, return", "4 7", "0 1 0 1 0 2 -1 1")
	checkTold(t, "nil, jumpnot 4, nil, jump 7, jump 7, return, return, return", "4 7", "0 1 0 1 0 -1 -1 0")
	checkTold(t, "nil, or 5, tab, nil, jump 6, return, return", "5 6", "0 1 0 1 2 1 2")
	// The shorter way counts, though it jumps back.
	checkTold(t, "jump 4, nil, nil, return, nil, jumpnot 3, nil, nil, jump 1", "1 3 4", "0 2 3 0 0 1 0 1 2")
	checkTold(t, "nil, jumpnot 5, jump 3, nil, nil, nil, jump 4", "3 4 5", "0 1 0 0 1 0 1")
}

func TestDepthsOfCircles(t *testing.T) {
	checkTold(t, "jump 0", "0", "0")
	checkTold(t, "nil, jump 0", "0", "0 1")
	checkTold(t, "nil, jumpnot 0, jump 0", "0", "0 1 0")
	checkTold(t, "nil, nil, jump 1", "1", "0 1 2")
	checkTold(t, "nil, nil, pop, pop, jump 1, return", "1", "0 1 2 1 0 -1")
	checkTold(t, "jump 2, jump 0, jump 1, return", "0 1 2", "0 0 0 -1")
	checkTold(t, "nil, and 0, or 0, jumpnot 0, jump 2", "0 2", "0 1 0 -1 -1")
	// A circle that lays more each time is gone round once.
	checkTold(t, "mark, jump 0", "0", "0 2")
}

func TestDepthsOfCodeThatIsNeverComeTo(t *testing.T) {
	checkTold(t, "return", "", "0")
	checkTold(t, "return, nil, return", "", "0 -1 -1")
	checkTold(t, "jump 2, nil, return", "2", "0 -1 0")
	checkTold(t, "jump 3, jump 0, return, return", "0 3", "0 -1 -1 0")
	checkTold(t, "nil, return, jump 3, return", "3", "0 1 -1 -1")
	// It goes on out of the code, or jumps out of it.
	checkTold(t, "nil", "", "0")
	checkTold(t, "nil, nil, nil", "", "0 1 2")
	checkTold(t, "nil, jumpnot 0", "0", "0 1")
	checkTold(t, "nil, jumpnot 7, nil", "7", "0 1 0")
	checkTold(t, "jump 9, return", "9", "0 -1")
	checkTold(t, "jump -1, return", "-1", "0 -1")
	checkTold(t, "nil, or 3, nil", "3", "0 1 0")
}

func TestDepthsBelowNothing(t *testing.T) {
	checkTold(t, "pop, return", "", "0 -1")
	checkTold(t, "set 0, return", "", "0 -1")
	checkTold(t, "nil, put, return", "", "0 1 -1")
	checkTold(t, "nil, nil, put, return", "", "0 1 2 -1")
	checkTold(t, "nil, nil, nil, put, return", "", "0 1 2 3 0")
	checkTold(t, "jumpnot 2, return, return", "2", "0 -1 -1")
	checkTold(t, "op 1, return", "", "0 -1")
	checkTold(t, "call 0, return", "", "0 -1")
	checkTold(t, "nil, call 0, return", "", "0 1 -1")
	checkTold(t, "mark, call 0, return", "", "0 2 0")
	checkTold(t, "mark, call 1, return", "", "0 2 -1")
	// Nobody goes on from there, though more is laid behind.
	checkTold(t, "pop, nil, return", "", "0 -1 -1")
	checkTold(t, "pop, mark, mark, return", "", "0 -1 -1 -1")
	// It is no coming: another way may lead there.
	checkTold(t, "and 2, pop, return", "2", "0 -1 0")
	checkTold(t, "or 1, return", "1", "0 0")
	checkTold(t, "and 3, nil, return, nil, jump 1", "1 3", "0 1 2 0 1")
	checkTold(t, "or 2, jump 3, nil, nil, jump 1", "1 2 3", "0 2 0 1 2")
}

func TestDepthsOfCallsOfAnyNumber(t *testing.T) {
	const most, least = "9223372036854775807", "-9223372036854775808"
	for _, a := range []string{most, "9223372036854775806", "9223372036854775805", "4611686018427387904", "4294967296", "1000000", "41"} {
		for n := range 5 {
			ahead := strings.Repeat("nil, ", n)
			depths := "0"
			for i := range n {
				depths += fmt.Sprint(" ", i+1)
			}
			checkTold(t, ahead+"call "+a+", return", "", depths+" -1")
			checkTold(t, ahead+"call "+a+", nil, mark, return", "", depths+" -1 -1 -1")
		}
	}
	checkTold(t, "call -1, return", "", "0 -1")
	checkTold(t, "call -2, return", "", "0 0")
	checkTold(t, "call -3, return", "", "0 1")
	checkTold(t, "call -1000000, return", "", "0 999998")
	checkTold(t, "call -9223372036854775807, return", "", "0 9223372036854775805")
	checkTold(t, "call "+least+", return", "", "0 9223372036854775806")
	checkTold(t, "nil, call "+least+", return", "", "0 1 "+most)
	checkTold(t, "call "+least+", nil, return", "", "0 9223372036854775806 "+most)
	checkTold(t, "call "+least+", call 9223372036854775804, return", "", "0 9223372036854775806 0")
	checkTold(t, "call "+least+", call 9223372036854775805, return", "", "0 9223372036854775806 -1")
	checkTold(t, "nil, call "+least+", call "+most+", return", "", "0 1 "+most+" -1")
	checkTold(t, "nil, call "+least+", call 9223372036854775805, return", "", "0 1 "+most+" 0")
	// More than a number tells.
	checkTold(t, "call "+least+", nil, nil, return", "", "0 9223372036854775806 "+most+" -1")
	checkTold(t, "call "+least+", mark, return", "", "0 9223372036854775806 -1")
	checkTold(t, "nil, nil, call "+least+", return", "", "0 1 2 -1")
	checkTold(t, "call "+least+", call "+least+", return", "", "0 9223372036854775806 -1")
}

// Any code, held against the models.
func TestPlacesByChance(t *testing.T) {
	t.Parallel()
	r := rand.New(rand.NewSource(162))
	known, none := 0, 0
	for range 60000 {
		n := r.Intn(14)
		var p impl.Proto
		for range n {
			one := ins(r.Intn(30)-1, r.Intn(n+3)-1)
			switch r.Intn(8) {
			case 0, 1, 2:
				one.Op = impl.OJump + r.Intn(4)
			case 3, 4:
				one.Op = []int{impl.ONil, impl.OMark, impl.OMark, impl.ODup}[r.Intn(4)]
			}
			if r.Intn(40) == 0 {
				one.A = int(r.Uint64()) >> r.Intn(64)
			}
			if one.Op == impl.OCall {
				one.A = r.Intn(5) - 3
			}
			p.Code = append(p.Code, one)
		}
		checkPlaces(t, "by chance", p)
		for _, depth := range impl.Depths(p) {
			if depth < 0 {
				none++
			} else {
				known++
			}
		}
	}
	if known < 50000 || none < 50000 {
		t.Error("too few of either kind:", known, none)
	}
	for range 20000 {
		k := &tinker{Rand: r}
		k.makeModule()
		for _, p := range k.module.Protos {
			checkPlaces(t, "a tinker's", p)
		}
	}
}

// Code of any length.
func TestPlacesOfLongCode(t *testing.T) {
	var zigzag, stairs, down []impl.Ins
	const n = 100000
	for i := range n {
		stairs = append(stairs, ins(impl.ONil, i))
		down = append(down, ins(impl.OJump, (i+n-1)%n))
		zigzag = append(zigzag, ins([]int{impl.ONil, impl.OJumpNot}[i%2], n-1-i))
	}
	depths := impl.Depths(impl.Proto{Code: stairs})
	for i, depth := range depths {
		if depth != i {
			t.Fatal("depth", depth, "at", i)
		}
	}
	if got := impl.Depths(impl.Proto{Code: down}); slices.Max(got) != 0 || slices.Min(got) != 0 {
		t.Error("depths", slices.Min(got), "to", slices.Max(got))
	}
	jumps := impl.Jumps(impl.Proto{Code: down})
	if len(jumps) != n || !slices.IsSorted(jumps) || jumps[0] != 0 || jumps[n-1] != n-1 {
		t.Error(len(jumps), "jumps")
	}
	if got, want := impl.Depths(impl.Proto{Code: zigzag}), modelDepths(impl.Proto{Code: zigzag}); !slices.Equal(got, want) {
		t.Error("a long code's depths")
	}
}

// checkOneDepth: whatever way one comes to a place of compiled code, there stand as many values; the last two are come to with 0 and one.
func checkOneDepth(t *testing.T, name string, p impl.Proto) {
	t.Helper()
	checkPlaces(t, name, p)
	depths := impl.Depths(p)
	come := map[int]bool{0: true}
	for line := []int{0}; len(line) > 0; line = line[1:] {
		from := line[0]
		for _, a := range arrivals(p.Code[from], arrival{from, big.NewInt(int64(depths[from]))}) {
			if a.place < 0 || a.place >= len(p.Code) || !a.depth.IsInt64() || int(a.depth.Int64()) != depths[a.place] || a.depth.Sign() < 0 {
				t.Fatalf("%s: from %d on to %d: %v, of %v, of %s", name, from, a.place, a.depth, depths, toldProto(p))
			}
			if !come[a.place] {
				come[a.place] = true
				line = append(line, a.place)
			}
		}
	}
	for at, i := range p.Code {
		if !come[at] && depths[at] != -1 || i.Op == impl.OReturn && come[at] && depths[at] != 1 {
			t.Fatalf("%s: at %d depth %d, of %s", name, at, depths[at], toldProto(p))
		}
	}
	last := len(p.Code) - 1
	if come[last] != come[last-1] || come[last] && (depths[last-1] != 0 || depths[last] != 1) {
		t.Fatalf("%s: the end is come to with %v, of %s", name, depths[last-1:], toldProto(p))
	}
	for _, place := range impl.Jumps(p) {
		if place < 0 || place > last {
			t.Fatalf("%s: a jump to %d, of %s", name, place, toldProto(p))
		}
	}
}

// Promise 16: compiled code has one depth at each place.
func TestCompiledCodeHasOneDepth(t *testing.T) {
	t.Parallel()
	r := rand.New(rand.NewSource(163))
	done, ends := 0, 0
	look := func(name string, m impl.Module) {
		for i, p := range m.Protos {
			checkOneDepth(t, fmt.Sprint(name, ", Proto ", i), p)
			if depths := impl.Depths(p); depths[len(depths)-1] == 1 {
				ends++
			}
		}
	}
	for range 3000 {
		if m, code, _ := impl.Compile(someProgram(r, 1+r.Intn(150), 1+r.Intn(7)).tree()); code == impl.CodDone {
			done++
			look("a tree by chance", m)
		}
	}
	if done < 1500 || ends < 1500 {
		t.Error("only", done, "programs,", ends, "ends")
	}
	for range 1000 {
		m, text := someModule(r, 1+r.Intn(12))
		look(text, m)
	}
	for _, text := range append(modulePrograms(),
		"", "return 1;", "return 1; return 2;", "if 1 { return 2; } else { return 3; }", "while true { return 1; }", "while a { }", "fn() { return 1; }();",
		"local a = 1; while a { if a { a = 2; } else { while a { a = {1, x = a, [a] = {a}}; } } }",
		"return 1 and 2 or 3 and (4 or 5) or not (6 and 7);", "print(1 and print(2 or print(3, 4 and 5)), {print(), [1 or 2] = 3 and 4});",
	) {
		tree, _, _ := impl.Parse(text)
		if m, code, _ := impl.Compile(tree); code == impl.CodDone {
			look(text, m)
		}
	}
}

// standing tells which Proto runs, where, and how many values stand above its slots.
func standing(m impl.Machine) (proto int, place int, depth int) {
	if m.Cycle {
		m, _ = impl.CollectNow(m)
	}
	co := m.Roots[0].N
	top, base := int(m.Words[co+2]), int(m.Words[co+3])
	f, _ := impl.GetVal(m.Words, co+7+2*(base-1))
	proto = int(m.Words[f.N+1])
	return proto, int(m.Words[co+4]), top - base - m.Module.Protos[proto].Slots
}

// runningPrograms have errors that are caught with much on the stack, and coroutines that are left anywhere.
func runningPrograms() []string {
	return []string{
		`local f = fn(x) { return {1, [x] = 1 + (2 / x)}; }; print(1, {2, pcall(f, 0), 3}); local i = 0; while i < 3 { i = i + 1; print(1 .. "" and tostr(pcall(f, i)) or failed()); }`,
		`local c = co(fn(x) { local i = 0; while i < 4 { i = i + (yield(i) and 1 or 2); print({i, x, (yield({x, yield(x)}))}); } return x; }); local n = 0; while not (state(c) == 3) { n = n + 1; print(type(resume(c, n)), n); }`,
		`local k = fn(f, n) { if n == 0 { return f(1, 2, 3); } return {n, f, [n] = n} and pcall(fn(a) { return error(a); }, n); }; print(k(fn(a) { return -a; }, 0), k(print, 2), k(print, 1)); error({1});`,
		`local t = {1, 2, x = {3}}; t.x[1] = t[1] + t.x[1]; t["y"] = #t and not t.z or "b"; print(t.y, t.x[1] <= 4); local g = fn() { t = t.x; return t; }; g(); print(g() == t);`,
		`local n = 0; local up = fn() { n = n + 1; return n; }; while n < 20 { n = n + {up()}[1]; up(); } print(n, up);`,
	}
}

// A machine that runs compiled code has, ahead of each instruction, as many values above its slots as Depths tells.
func TestMachinesStandAsDepthsTell(t *testing.T) {
	t.Parallel()
	r := rand.New(rand.NewSource(164))
	steps, ops := 0, map[int]int{}
	run := func(name string, m impl.Machine, most int) {
		depths := make([][]int, len(m.Module.Protos))
		for i, p := range m.Module.Protos {
			depths[i] = impl.Depths(p)
		}
		for range most {
			if m.State != 0 {
				return
			}
			proto, place, depth := standing(m)
			if depths[proto][place] != depth {
				t.Fatalf("%s: %d values at %d of Proto %d, want %d", name, depth, place, proto, depths[proto][place])
			}
			steps++
			ops[m.Module.Protos[proto].Code[place].Op]++
			m, _ = impl.Step(m)
		}
	}
	for _, text := range runningPrograms() {
		run(text, booted(t, text, 4000), 1500)
		run(text, booted(t, text, 700), 1500)
	}
	for range 60 {
		m, text := someModule(r, 3+r.Intn(10))
		run(text, bootOf(t, m, 500+r.Intn(1500)), 250)
	}
	for op := impl.ONil; op <= impl.OLib; op++ {
		if ops[op] < 5 {
			t.Error(opWords[op], "is come to", ops[op], "times in", steps, "steps")
		}
	}
}
