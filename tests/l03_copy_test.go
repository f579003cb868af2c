package tests

import (
	"fmt"
	"math"
	"slices"
	"testing"

	"loop.example/g00101/impl"
)

// checkNotCopied: what is no arena is handed back by all functions of the chapter.
func checkNotCopied(t *testing.T, name string, a impl.Arena) {
	t.Helper()
	in := roomy(a)
	was := allOf(in)
	check := func(call string, out impl.Arena, refused bool) {
		t.Helper()
		if !refused || !sameArena(out, a) {
			t.Errorf("%s: %s does not hand it back", name, call)
		}
		checkOwn(t, out, whole(in), was)
	}
	out, ok := impl.Flip(in)
	check("Flip", out, !ok)
	for _, n := range []int{-1, 0, 1, 100} {
		out, gone := impl.CopyStep(in, n)
		check(fmt.Sprint("CopyStep ", n), out, gone == 0)
	}
	out, gone := impl.Finish(in)
	check("Finish", out, gone == 0)
	out, ok = impl.Collect(in)
	check("Collect", out, !ok)
	if n := impl.Reached(in); n != 0 {
		t.Errorf("%s: Reached is %d", name, n)
	}
}

// wrongArenas has one for each point of ArenaOk, with either half in use; checkRefused asks the same of all other wrong ones.
func wrongArenas() []turned {
	still := []turn{
		{"point 1: a word too many", func(s *sample) { s.Words = append(s.Words, 0) }},
		{"point 1: Top behind the half", func(s *sample) { s.Top = s.To*s.Semi + s.Semi + 1 }},
		{"point 1: too many Roots", func(s *sample) { s.Roots = make([]impl.Val, impl.MaxRoots+1) }},
		{"point 2: no head", func(s *sample) { s.put("box", 0, 0) }},
		{"point 2: one serial twice", func(s *sample) { s.put("bare", 0, packed(impl.Head{Kind: impl.KFun, Size: 1, Serial: 1})) }},
		{"point 3: Copied without a Cycle", func(s *sample) { s.Copied = 1 }},
		{"point 4: a box with a block", func(s *sample) { s.put("box", 1, pairs(ref(impl.TBlk, s.at["loose"]))...) }},
		{"point 4: garbage that leads to nothing", func(s *sample) { s.put("loose", 3, pairs(ref(impl.TStr, s.Top))...) }},
		{"point 5: a Root that leads to nothing", func(s *sample) { s.Roots[0] = ref(impl.TStr, s.Top) }},
		{"point 5: a Root that is no value", func(s *sample) { s.Roots[0] = impl.Val{Tag: impl.TBool, N: 2} }},
	}
	running := []turn{
		{"point 3: Scan between objects", func(s *sample) { s.Scan++ }},
		{"point 3: Old behind the half", func(s *sample) { s.Old = (1-s.To)*s.Semi + s.Semi + 1 }},
		{"point 3: Copied one too many", func(s *sample) { s.Copied++ }},
		{"point 3: two words lead to one copy", func(s *sample) { s.put("old copy box", 0, s.Words[s.at["old copy table"]]) }},
		{"point 3: no room for what is not copied", func(s *sample) {
			l := &layer{s.Words, s.Top}
			for range (s.Semi-1-34-(187-27))/3 + 1 {
				l.cell(impl.Val{})
			}
			s.Top = l.at
		}},
		{"point 4: ahead of Scan into the other half", func(s *sample) { s.put("done box", 1, pairs(ref(impl.TStr, s.at["old text"]))...) }},
		{"point 4: from the other half into the one in use", func(s *sample) { s.put("old box", 1, pairs(ref(impl.TCell, s.at["copy box"]))...) }},
		{"point 5: a Root into the other half", func(s *sample) { s.Roots[2] = ref(impl.TStr, s.at["old text"]) }},
	}
	list := []turned{{"nothing", impl.Arena{}}}
	for to := range 2 {
		for _, turn := range still {
			s := stillSample(300, to)
			turn.do(&s)
			list = append(list, turned{turn.name, s.Arena})
		}
		for _, turn := range running {
			s := cycleSample(300, to)
			turn.do(&s)
			list = append(list, turned{turn.name, s.Arena})
		}
	}
	return list
}

// turned is an arena that is not right any more, and why.
type turned struct {
	name string
	impl.Arena
}

func TestCopyingOfWrongArenas(t *testing.T) {
	for _, wrong := range wrongArenas() {
		checkNotCopied(t, wrong.name, wrong.Arena)
	}
}

// stand is where a cycle is, places counted from the beginning of the half in use.
type stand struct{ top, scan, copied int }

func standOf(a impl.Arena) stand {
	begin := a.To*a.Semi + 1
	return stand{a.Top - begin, a.Scan - begin, a.Copied}
}

// Each step of the cycle of an arena with objects of all kinds, by hand.
func TestCycleStepByStep(t *testing.T) {
	for to := range 2 {
		s := stillSample(impl.MinSemi, to)
		said := taleOf(s.Arena)
		begin := (1-to)*impl.MinSemi + 1
		a, ok := impl.Flip(s.Arena)
		if !ok || !a.Cycle || a.To != 1-to || a.Old != s.Top || a.Serial != s.Serial || standOf(a) != (stand{144, 0, 144}) {
			t.Fatal("Flip", ok, standOf(a), a.Old)
		}
		for i, at := range []int{0, 4, 8, 14, 141} { // the text, the table, the function, the coroutine, the box of a box
			if v := a.Roots[4+i]; v != ref(s.Roots[4+i].Tag, begin+at) || a.Words[s.Roots[4+i].N] != 1<<63+uint64(begin+at) {
				t.Errorf("the Root %d is %v", 4+i, v)
			}
		}
		if !slices.Equal(a.Roots[:4], s.Roots[:4]) {
			t.Error("Roots that are no references", a.Roots[:4])
		}
		steps := []stand{
			{144, 4, 144},
			{161, 8, 161},    // the table's block
			{164, 14, 164},   // the function's second box; the first one was there
			{164, 141, 164},  // the coroutine has that box, too
			{164, 144, 164},  // so has the box of a box
			{164, 161, 164},  // the block has the function
			{164, -begin, 0}, // the cycle is over
		}
		for i, want := range steps {
			var n int
			a, n = impl.CopyStep(a, 1)
			if n != 1 || standOf(a) != want || a.Cycle != (i < 6) {
				t.Fatalf("step %d: %d, %v, want %v", i, n, standOf(a), want)
			}
			checkStays(t, "a step", a, said)
		}
		if a.Old != 0 || a.Scan != 0 || impl.Free(a) != 255-164 || impl.Reached(a) != 164 {
			t.Error("the cycle is over", a.Old, a.Scan, impl.Free(a))
		}
		checkJust(t, "the cycle is over", a)
	}
}

// chain is boxes of which each has the one ahead of it, in the order in which they were made, and the last one in a Root.
func chain(semi int, to int, n int) impl.Arena {
	a := newArena(semi, to)
	l := &layer{a.Words, a.Top}
	v := num(0)
	for range n {
		v = ref(impl.TCell, l.cell(v))
	}
	a.Top, a.Roots = l.at, []impl.Val{v}
	return a
}

func TestHowManySteps(t *testing.T) {
	for to := range 2 {
		const boxes = 5
		flipped, _ := impl.Flip(chain(300, to, boxes))
		for _, n := range []int{math.MinInt, -7, -1, 0} {
			a, gone := impl.CopyStep(flipped, n)
			if gone != 0 || !sameArena(a, flipped) {
				t.Errorf("CopyStep %d goes over %d", n, gone)
			}
		}
		single := flipped
		for _, n := range []int{1, 2, 3, 4, 5, 6, 100, math.MaxInt} {
			a, gone := impl.CopyStep(flipped, n)
			if gone != min(n, boxes) || a.Cycle != (n < boxes) {
				t.Errorf("CopyStep %d goes over %d, the Cycle is %v", n, gone, a.Cycle)
			}
			if n < boxes && standOf(a) != (stand{3 * (n + 1), 3 * n, 3 * (n + 1)}) {
				t.Errorf("CopyStep %d is at %v", n, standOf(a))
			}
			single, _ = impl.CopyStep(single, 1)
			if !sameArena(a, single) {
				t.Errorf("CopyStep %d is not as many times 1", n)
			}
		}
		a, gone := impl.Finish(flipped)
		if gone != boxes || !sameArena(a, single) {
			t.Error("Finish goes over", gone)
		}
		later, _ := impl.CopyStep(flipped, 3)
		if a, gone = impl.Finish(later); gone != 2 || !sameArena(a, single) {
			t.Error("Finish goes over", gone, "of two that are left")
		}
	}
}

// Without a reference in Roots the cycle is over at once, and no word is another one.
func TestCycleThatIsOverAtOnce(t *testing.T) {
	rootless := [][]impl.Val{nil, {}, {{}}, {num(1), yes(), {Tag: impl.TLib, N: 3}}, {num(1), num(257)}}
	for to := range 2 {
		for _, full := range []impl.Arena{newArena(300, to), stillSample(300, to).Arena, filled(to)} {
			for i, roots := range rootless {
				a := full
				a.Roots = roots
				want := a
				want.To, want.Top = 1-to, (1-to)*a.Semi+1
				if out, ok := impl.Flip(a); !ok || !sameArena(out, want) {
					t.Errorf("half %d, Roots %d: Flip is %v, %v", to, i, ok, standOf(out))
				}
				if out, ok := impl.Collect(a); !ok || !sameArena(out, want) || impl.Free(out) != a.Semi-1 {
					t.Errorf("half %d, Roots %d: Collect is %v, %v", to, i, ok, standOf(out))
				}
				if impl.Reached(a) != 0 {
					t.Errorf("half %d, Roots %d: Reached is %d", to, i, impl.Reached(a))
				}
				checkCopying(t, a)
			}
		}
	}
}

// A cycle may be handed in that has nothing left to go over: it is over ahead of the first step, and no object was gone over.
func TestScanIsTopAlready(t *testing.T) {
	for to := range 2 {
		var list []impl.Arena
		a := newArena(300, to)
		a.Cycle, a.Scan, a.Old = true, a.Top, (1-to)*300+1
		list = append(list, a)
		b := chain(300, to, 4)
		o := &layer{b.Words, (1-to)*300 + 1}
		o.text("never copied")
		o.forward((to*300)+1, 2)
		b.Cycle, b.Scan, b.Old, b.Copied = true, b.Top, o.at, 3
		list = append(list, b)
		for i, a := range list {
			want := a
			want.Cycle, want.Scan, want.Old, want.Copied = false, 0, 0, 0
			for _, n := range []int{1, 2, math.MaxInt} {
				if out, gone := impl.CopyStep(a, n); gone != 0 || !sameArena(out, want) {
					t.Errorf("%d: CopyStep %d goes over %d, the Cycle is %v", i, n, gone, out.Cycle)
				}
			}
			if out, gone := impl.Finish(a); gone != 0 || !sameArena(out, want) {
				t.Errorf("%d: Finish goes over %d, the Cycle is %v", i, gone, out.Cycle)
			}
			for _, n := range []int{math.MinInt, -1, 0} { // not at all
				if out, gone := impl.CopyStep(a, n); gone != 0 || !sameArena(out, a) {
					t.Errorf("%d: CopyStep %d goes over %d, the Cycle is %v", i, n, gone, out.Cycle)
				}
			}
			if out, ok := impl.Flip(a); ok || !sameArena(out, a) {
				t.Error(i, "Flip while a Cycle runs")
			}
			checkCopying(t, a)
		}
	}
}

func TestWithoutACycle(t *testing.T) {
	for to := range 2 {
		for _, a := range []impl.Arena{newArena(300, to), stillSample(300, to).Arena, filled(to), chain(300, to, 3)} {
			for _, n := range []int{math.MinInt, -1, 0, 1, 2, math.MaxInt} {
				if out, gone := impl.CopyStep(a, n); gone != 0 || !sameArena(out, a) {
					t.Errorf("CopyStep %d goes over %d without a Cycle", n, gone)
				}
			}
			if out, gone := impl.Finish(a); gone != 0 || !sameArena(out, a) {
				t.Errorf("Finish goes over %d without a Cycle", gone)
			}
		}
	}
}

func TestFlipWhileACycleRuns(t *testing.T) {
	for to := range 2 {
		s := cycleSample(300, to)
		if out, ok := impl.Flip(s.Arena); ok || !sameArena(out, s.Arena) {
			t.Error("Flip while a Cycle runs")
		}
		// Collect goes on with that cycle first: what was new in it is copied once more.
		said := taleOf(s.Arena)
		out, ok := impl.Collect(s.Arena)
		if !ok || out.To == to {
			t.Fatal("Collect while a Cycle runs", ok, out.To)
		}
		checkStays(t, "Collect while a Cycle runs", out, said)
		checkJust(t, "Collect while a Cycle runs", out)
	}
}

// A half that is full of what can be reached goes over as it is, and nothing is free at any time.
func TestFullHalf(t *testing.T) {
	for to := range 2 {
		a := chain(impl.MinSemi, to, 85)
		said := taleOf(a)
		if a.Top != to*impl.MinSemi+impl.MinSemi || impl.Reached(a) != 255 {
			t.Fatal("not full", a.Top)
		}
		checkCopying(t, a)
		b, ok := impl.Flip(a)
		for n := 0; b.Cycle; n++ {
			if !ok || impl.Free(b) != 0 || b.Top-b.Scan != 3 || b.Copied != 3*(n+1) {
				t.Fatalf("%d steps: %d free, at %v", n, impl.Free(b), standOf(b))
			}
			checkStays(t, "a full half", b, said)
			b, _ = impl.CopyStep(b, 1)
		}
		if b.Top != (1-to)*impl.MinSemi+impl.MinSemi || impl.Free(b) != 0 {
			t.Error("the full half is at", standOf(b))
		}
		checkJust(t, "a full half", b)
	}
}

// What two lead to is copied once: Copied and Top are more by it once, and both lead there.
func TestForwardedAhead(t *testing.T) {
	for to := range 2 {
		a := newArena(300, to)
		l := &layer{a.Words, a.Top}
		text := ref(impl.TStr, l.text("twice"))
		box := ref(impl.TCell, l.cell(text))
		fun := ref(impl.TFun, l.fun(1, 9, box, box))
		a.Top, a.Serial = l.at, 2
		a.Roots = []impl.Val{fun, text, fun, box, text}
		checkCopying(t, a)
		begin := (1-to)*300 + 1
		b, _ := impl.Flip(a)
		want := []impl.Val{ref(impl.TFun, begin), ref(impl.TStr, begin+6), ref(impl.TFun, begin), ref(impl.TCell, begin+9), ref(impl.TStr, begin+6)}
		if !slices.Equal(b.Roots, want) || standOf(b) != (stand{12, 0, 12}) {
			t.Fatal("Flip", b.Roots, standOf(b))
		}
		b, _ = impl.CopyStep(b, 1)
		if standOf(b) != (stand{12, 6, 12}) || !slices.Equal(b.Words[begin+2:begin+6], pairs(want[3], want[3])) {
			t.Error("the function", standOf(b), b.Words[begin:begin+6])
		}
		b, n := impl.Finish(b)
		if n != 2 || b.Cycle || b.Top != begin+12 || !slices.Equal(b.Words[begin+10:begin+12], pairs(want[1])) {
			t.Error("the box", n, standOf(b))
		}
	}
}

func TestCircles(t *testing.T) {
	for to := range 2 {
		for _, length := range []int{1, 2, 3, 20} {
			a := newArena(300, to)
			l := &layer{a.Words, a.Top}
			var boxes []int
			for range length {
				l.text("garbage")
				boxes = append(boxes, l.cell(impl.Val{}))
			}
			for i, at := range boxes {
				copy(a.Words[at+1:], pairs(ref(impl.TCell, boxes[(i+1)%length])))
			}
			a.Top, a.Roots = l.at, []impl.Val{ref(impl.TCell, boxes[length/2])}
			if impl.Reached(a) != 3*length {
				t.Errorf("%d in a circle: Reached is %d", length, impl.Reached(a))
			}
			checkCopying(t, a)
			b, _ := impl.Flip(a)
			b, n := impl.Finish(b)
			begin := (1-to)*300 + 1
			if n != length || b.Top != begin+3*length || b.Words[b.Top-1] != uint64(begin) {
				t.Errorf("%d in a circle: %d, %v", length, n, standOf(b))
			}
		}
	}
}

// Circles through all kinds that have slots, each of them to itself by way of others.
func TestCirclesOfAllKinds(t *testing.T) {
	for to := range 2 {
		a := newArena(300, to)
		l := &layer{a.Words, a.Top}
		l.text("garbage")
		box := ref(impl.TCell, l.cell(impl.Val{}))
		block := l.block(4)
		tab := ref(impl.TTab, l.table(3, 3, ref(impl.TBlk, block)))
		l.cell(tab) // garbage that leads to what is reached
		fun := ref(impl.TFun, l.fun(1, 0, box, box))
		co := ref(impl.TCo, l.co(2, [4]uint64{1, 4, 3, 9}, impl.Val{}, tab, fun, box, impl.Val{}))
		copy(a.Words[box.N+1:], pairs(co))
		copy(a.Words[co.N+5:], pairs(co))
		copy(a.Words[block+1+4:], pairs(fun, tab, co, co, tab, fun)) // their serials are 1, 2, 3
		a.Top, a.Serial = l.at, 4
		for _, v := range []impl.Val{box, tab, fun, co} {
			x := a
			x.Roots = []impl.Val{num(4), v}
			if !impl.ArenaOk(x) || impl.Reached(x) != 3+17+4+6+127 {
				t.Fatalf("half %d: Reached is %d, %v", to, impl.Reached(x), impl.ArenaOk(x))
			}
			checkCopying(t, x)
			y, _ := impl.Flip(x)
			for y.Cycle {
				checkCopying(t, y)
				y, _ = impl.CopyStep(y, 1)
			}
			checkJust(t, "all kinds", y)
		}
	}
}

// While a cycle runs an object is counted once, wherever it is come to: by its old place or by its copy.
func TestReachedWhileACycleRuns(t *testing.T) {
	for to := range 2 {
		s := cycleSample(300, to)
		// copy box, old text; copy table, old block, done text by its old place, old fun, old box
		want := 3 + 3 + 4 + 17 + 3 + 6 + 3
		if got := impl.Reached(s.Arena); got != want {
			t.Errorf("Reached is %d, want %d", got, want)
		}
		s.Roots = nil
		if got := impl.Reached(s.Arena); got != 0 {
			t.Errorf("Reached is %d without Roots", got)
		}
	}
}

// A second collection finds nothing more, and all words are as they were.
func TestCollectTwice(t *testing.T) {
	for _, s := range samples() {
		once, _ := impl.Collect(s.Arena)
		twice, _ := impl.Collect(once)
		thrice, _ := impl.Collect(twice)
		checkJust(t, "twice", twice)
		if twice.To == once.To || thrice.To != once.To || thrice.Top != once.Top {
			t.Error("the halves", once.To, twice.To, thrice.To)
		}
		begin := once.To*once.Semi + 1
		if !slices.Equal(thrice.Words[begin:thrice.Top], once.Words[begin:once.Top]) {
			t.Error("other words behind two collections more")
		}
	}
}
