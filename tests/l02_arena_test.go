package tests

import (
	"math"
	"slices"
	"testing"

	"loop.example/g00101/impl"
)

func TestArenaConstants(t *testing.T) {
	if impl.MinSemi != 256 || impl.MaxSemi != 4000 || impl.MaxRoots != 24 {
		t.Error("limits", impl.MinSemi, impl.MaxSemi, impl.MaxRoots)
	}
}

func TestSlotsOfEachKind(t *testing.T) {
	firsts := map[int]int{impl.KTab: 2, impl.KBlk: 1, impl.KFun: 2, impl.KCell: 1, impl.KCo: 5}
	sizes := rightSizes()
	for kind := -1; kind <= 20; kind++ {
		for size := -3; size <= 300; size++ {
			var want []int
			if first, ok := firsts[kind]; ok && slices.Contains(sizes[kind], size) {
				for at := first; at+1 <= size; at += 2 {
					want = append(want, at)
				}
			}
			if got := impl.Slots(kind, size); !slices.Equal(got, want) {
				t.Fatalf("Slots(%d, %d) is %v, want %v", kind, size, got, want)
			}
		}
	}
	for _, x := range []int{math.MinInt, math.MaxInt, 1 << 32, 65536 + 2} {
		if got := append(impl.Slots(impl.KCell, x), impl.Slots(x, 2)...); len(got) != 0 {
			t.Errorf("Slots with %d is %v", x, got)
		}
	}
}

func TestSlotsCounts(t *testing.T) {
	cases := []struct{ kind, size, n int }{
		{impl.KStr, 1, 0}, {impl.KStr, 3, 0}, {impl.KStr, 21, 0}, {impl.KTab, 3, 1}, {impl.KBlk, 16, 8}, {impl.KBlk, 256, 128},
		{impl.KFun, 1, 0}, {impl.KFun, 3, 1}, {impl.KFun, 25, 12}, {impl.KCell, 2, 1}, {impl.KCo, 126, 61}, {impl.KBlk, 48, 0}, {0, 0, 0},
	}
	for _, c := range cases {
		if got := impl.Slots(c.kind, c.size); len(got) != c.n {
			t.Errorf("Slots(%d, %d) is %v", c.kind, c.size, got)
		}
	}
}

func TestNewArenas(t *testing.T) {
	for _, semi := range []int{impl.MinSemi, impl.MinSemi + 1, 1000, impl.MaxSemi} {
		for _, roots := range []int{0, 1, 6, impl.MaxRoots} {
			a, ok := impl.NewArena(semi, roots)
			want := impl.Arena{Words: make([]uint64, 2*semi), Semi: semi, Top: 1, Serial: 1, Roots: make([]impl.Val, roots)}
			if !ok || !sameArena(a, want) || !impl.ArenaOk(a) {
				t.Errorf("NewArena(%d, %d) is wrong, %v", semi, roots, ok)
			}
			if impl.Free(a) != semi-1 || len(impl.Objects(a)) != 0 {
				t.Errorf("NewArena(%d, %d) has %d free, objects %v", semi, roots, impl.Free(a), impl.Objects(a))
			}
		}
	}
	b, _ := impl.NewArena(300, 2)
	c, _ := impl.NewArena(300, 2)
	b.Words[5], b.Roots[1] = 5, num(5)
	if c.Words[5] != 0 || c.Roots[1] != (impl.Val{}) {
		t.Error("two new arenas share memory")
	}
}

func TestNewArenaRefuses(t *testing.T) {
	wrong := [][2]int{
		{impl.MinSemi - 1, 0}, {impl.MaxSemi + 1, 0}, {0, 0}, {-300, 1}, {math.MinInt, 1}, {math.MaxInt, 1}, {1 << 62, 1},
		{300, -1}, {300, impl.MaxRoots + 1}, {300, math.MinInt}, {300, math.MaxInt}, {1, 25},
	}
	for _, w := range wrong {
		if a, ok := impl.NewArena(w[0], w[1]); ok || !sameArena(a, impl.Arena{}) {
			t.Errorf("NewArena%v is taken", w)
		}
	}
}

// The promise: the objects stand one right behind the other, from the beginning of the half up to Top, each with its head.
func TestObjectsStandOneBehindTheOther(t *testing.T) {
	for i, s := range samples() {
		if !impl.ArenaOk(s.Arena) || !modelOk(s.Arena) {
			t.Fatal("the sample is not right", i)
		}
		at := s.To*s.Semi + 1
		heads := map[int]impl.Head{}
		for _, place := range impl.Objects(s.Arena) {
			h, ok := impl.HeadAt(s.Arena, place)
			if place != at || !ok {
				t.Fatalf("sample %d: an object at %d (%v), not at %d", i, place, ok, at)
			}
			if w, _ := impl.PackHead(h); w != s.Words[at] {
				t.Errorf("sample %d: the head at %d is %v", i, at, h)
			}
			heads[place] = h
			at += 1 + h.Size
		}
		if at != s.Top {
			t.Errorf("sample %d: the objects end at %d, not at %d", i, at, s.Top)
		}
		for place := -3; place < len(s.Words)+3; place++ {
			want, stands := heads[place]
			if h, ok := impl.HeadAt(s.Arena, place); ok != stands || h != want {
				t.Fatalf("sample %d: HeadAt %d is %v, %v", i, place, h, ok)
			}
			if s.Semi > 300 && place%7 == 0 {
				place += 90
			}
		}
		for _, place := range []int{math.MinInt, math.MaxInt, 1 << 40} {
			if h, ok := impl.HeadAt(s.Arena, place); ok || h != (impl.Head{}) {
				t.Errorf("sample %d: HeadAt %d is %v", i, place, h)
			}
		}
	}
}

func TestKindsOfTheSamples(t *testing.T) {
	for _, s := range samples() {
		seen := map[int]int{}
		for _, w := range s.Words {
			h, _ := impl.ReadHead(w)
			seen[h.Kind]++
		}
		for _, kind := range []int{impl.KStr, impl.KTab, impl.KBlk, impl.KFun, impl.KCell, impl.KCo} {
			if seen[kind] == 0 {
				t.Error("no object of the kind", kind)
			}
		}
	}
}

func TestFree(t *testing.T) {
	for to := range 2 {
		still := stillSample(300, to)
		if got := impl.Free(still.Arena); got != 299-192 {
			t.Errorf("half %d: %d free", to, got)
		}
		running := cycleSample(300, to)
		if got := impl.Free(running.Arena); got != 299-34-(187-27) {
			t.Errorf("half %d: %d free while a cycle runs", to, got)
		}
		running.Copied++
		if got := impl.Free(running.Arena); got != 0 {
			t.Errorf("half %d: %d free in what is none", to, got)
		}
	}
	if impl.Free(impl.Arena{}) != 0 {
		t.Error("something is free in nothing")
	}
}

// filled has a half with texts up to its very end.
func filled(to int) impl.Arena {
	a := newArena(impl.MinSemi, to)
	l := &layer{a.Words, a.Top}
	for range 85 { // 3 words each
		l.text("filled")
	}
	a.Top = l.at
	return a
}

func TestTopAtBothEnds(t *testing.T) {
	for to := range 2 {
		empty := newArena(impl.MinSemi, to)
		if !impl.ArenaOk(empty) || impl.Free(empty) != 255 || len(impl.Objects(empty)) != 0 {
			t.Error("an empty half", to)
		}
		full := filled(to)
		if full.Top != (to+1)*impl.MinSemi || !impl.ArenaOk(full) || impl.Free(full) != 0 || len(impl.Objects(full)) != 85 {
			t.Error("a full half", to, full.Top)
		}
		for _, top := range []int{math.MinInt, -1, 0, empty.Top - 2, empty.Top - 1, empty.Top + 1, full.Top - 1, full.Top + 1, full.Top + 3, len(full.Words) + 1, math.MaxInt} {
			for _, a := range []impl.Arena{empty, full} {
				a.Top = top
				if impl.ArenaOk(a) {
					t.Errorf("half %d: Top %d is taken", to, top)
				}
			}
		}
	}
}

func TestOldAtBothEnds(t *testing.T) {
	for to := range 2 {
		a := newArena(impl.MinSemi, to)
		a.Cycle, a.Scan, a.Old = true, a.Top, (1-to)*impl.MinSemi+1
		if !impl.ArenaOk(a) || impl.Free(a) != 255 {
			t.Error("nothing in the other half", to)
		}
		full := filled(1 - to)
		full.To, full.Cycle, full.Scan, full.Old, full.Top = to, true, a.Top, full.Top, a.Top
		if !impl.ArenaOk(full) || impl.Free(full) != 0 {
			t.Error("a full other half", to)
		}
		for _, old := range []int{math.MinInt, -1, 0, a.Old - 2, a.Old - 1, a.Old + 1, full.Old - 1, full.Old + 1, full.Old + 3, len(full.Words) + 1, math.MaxInt} {
			for _, x := range []impl.Arena{a, full} {
				x.Old = old
				if impl.ArenaOk(x) {
					t.Errorf("half %d: Old %d is taken", to, old)
				}
			}
		}
	}
}

// What is not copied must have room behind Top: met exactly it has, passed by one it has not.
func TestRoomForWhatIsNotCopied(t *testing.T) {
	for to := range 2 {
		a := filled(1 - to)
		l := &layer{a.Words, to*impl.MinSemi + 1}
		a.To, a.Cycle, a.Scan, a.Old, a.Top = to, true, l.at, a.Top, l.at
		a.Serial = 2
		o := &layer{a.Words, (1-to)*impl.MinSemi + 1}
		copied := l.text("filled")
		o.forward(copied, 2)
		a.Top, a.Copied = l.at, 3
		if !impl.ArenaOk(a) || impl.Free(a) != 0 {
			t.Fatal("met exactly: refused", to)
		}
		for _, n := range []int{math.MinInt, -3, 0, 2, 4, math.MaxInt} {
			x := a
			x.Copied = n
			if impl.ArenaOk(x) {
				t.Errorf("half %d: Copied %d is taken", to, n)
			}
		}
		l.fun(1, 0) // two words that were not in the other half
		a.Top = l.at
		if impl.ArenaOk(a) || impl.Free(a) != 0 {
			t.Error("passed by two: taken", to)
		}
	}
}

func TestRoomPassedByOne(t *testing.T) {
	for to := range 2 {
		for spare := range 4 {
			a := newArena(impl.MinSemi, to)
			l := &layer{a.Words, a.Top}
			o := &layer{a.Words, (1-to)*impl.MinSemi + 1}
			for range 84 - 1 {
				o.text("filled")
			}
			l.text("123456789abcdef") // 4 words, and 83 times 3
			a.Top, a.Cycle, a.Scan, a.Old = l.at, true, l.at, o.at
			for range spare {
				l.cell(num(1))
				a.Top = l.at
				a.Scan = l.at
			}
			free := 255 - 4 - 3*83 - 3*spare
			if got := impl.ArenaOk(a); got != (free >= 0) {
				t.Errorf("half %d: %d free: %v", to, free, got)
			}
			if got := impl.Free(a); got != max(free, 0) {
				t.Errorf("half %d: %d free, want %d", to, got, free)
			}
		}
	}
}

func TestScanPlaces(t *testing.T) {
	for to := range 2 {
		s := cycleSample(impl.MinSemi, to)
		right := []int{s.at["done text"], s.at["done box"], s.at["copy block"]}
		for scan := -2; scan < len(s.Words)+2; scan++ {
			x := s.twin()
			x.Scan = scan
			if got, want := impl.ArenaOk(x.Arena), slices.Contains(right, scan); got != want {
				t.Errorf("half %d: Scan %d: %v", to, scan, got)
			}
		}
		// Where nothing leads into the other half any object may be at Scan, and Top as well.
		a := filled(to)
		a.Cycle, a.Old = true, (1-to)*impl.MinSemi+1
		for scan := 0; scan <= len(a.Words); scan++ {
			a.Scan = scan
			want := scan >= to*impl.MinSemi+1 && scan <= a.Top && (scan-to*impl.MinSemi-1)%3 == 0
			if impl.ArenaOk(a) != want {
				t.Errorf("half %d: Scan %d: %v", to, scan, !want)
			}
		}
		for _, scan := range []int{math.MinInt, -1, math.MaxInt, a.Top + 3} {
			a.Scan = scan
			if impl.ArenaOk(a) {
				t.Errorf("half %d: Scan %d is taken", to, scan)
			}
		}
	}
}

func TestSetRoot(t *testing.T) {
	plain := []impl.Val{{}, yes(), {Tag: impl.TBool}, num(math.MinInt), num(math.MaxInt), {Tag: impl.TLib, N: 1}, {Tag: impl.TLib, N: 20}}
	for i, s := range samples() {
		in := roomy(s.Arena)
		was := allOf(in)
		for r := range in.Roots {
			for _, v := range plain {
				want := s.twin().Arena
				want.Roots[r] = v
				out, ok := impl.SetRoot(in, r, v)
				if !ok || !sameArena(out, want) || !impl.ArenaOk(out) {
					t.Fatalf("sample %d: SetRoot %d to %v is wrong, %v", i, r, v, ok)
				}
				checkOwn(t, out, whole(in), was)
			}
		}
	}
}

func TestMoveRoot(t *testing.T) {
	for i, s := range samples() {
		in := roomy(s.Arena)
		was := allOf(in)
		for r := range in.Roots {
			for from := range in.Roots {
				want := s.twin().Arena
				want.Roots[r] = s.Roots[from]
				out, ok := impl.MoveRoot(in, r, from)
				if !ok || !sameArena(out, want) || !impl.ArenaOk(out) {
					t.Fatalf("sample %d: MoveRoot %d, %d is wrong, %v", i, r, from, ok)
				}
				checkOwn(t, out, whole(in), was)
			}
		}
	}
}

func TestSetRootRefuses(t *testing.T) {
	for i, s := range samples() {
		in := roomy(s.Arena)
		was := allOf(in)
		refused := func(r int, v impl.Val) {
			out, ok := impl.SetRoot(in, r, v)
			if ok || !sameArena(out, s.Arena) {
				t.Fatalf("sample %d: SetRoot %d to %v is %v", i, r, v, ok)
			}
			checkOwn(t, out, whole(in), was)
		}
		for _, r := range wrongRoots(len(in.Roots)) {
			refused(r, num(1))
		}
		for _, v := range append(wrongVals(), s.Roots...) {
			if !impl.ValOk(v) || impl.IsRef(v) {
				refused(0, v)
			}
		}
		for _, tag := range refTags() {
			refused(1, ref(tag, s.To*s.Semi+1))
		}
	}
}

func wrongRoots(n int) []int {
	return []int{math.MinInt, -1, n, n + 1, n + 3, impl.MaxRoots, math.MaxInt}
}

func TestMoveRootRefuses(t *testing.T) {
	for i, s := range samples() {
		in := roomy(s.Arena)
		was := allOf(in)
		for _, r := range wrongRoots(len(in.Roots)) {
			for _, pair := range [][2]int{{0, r}, {r, 0}, {r, r}} {
				out, ok := impl.MoveRoot(in, pair[0], pair[1])
				if ok || !sameArena(out, s.Arena) {
					t.Fatalf("sample %d: MoveRoot %v is %v", i, pair, ok)
				}
				checkOwn(t, out, whole(in), was)
			}
		}
	}
	none, _ := impl.NewArena(256, 0)
	if _, ok := impl.MoveRoot(none, 0, 0); ok {
		t.Error("a Root is moved where there is none")
	}
	if _, ok := impl.SetRoot(none, 0, num(1)); ok {
		t.Error("a Root is set where there is none")
	}
}
