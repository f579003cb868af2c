package tests

import (
	"fmt"
	"math/rand"
	"slices"
	"testing"

	"loop.example/g00101/impl"
)

// The model of the doors: by the document's words, from the models of chapters 2 and 3 alone.

func modelFree(a impl.Arena) int {
	free := a.To*a.Semi + a.Semi - a.Top
	if a.Cycle {
		free -= a.Old - ((1-a.To)*a.Semi + 1) - a.Copied
	}
	return free
}

// modelAsk tells where the object is, if the code is Done.
func modelAsk(a impl.Arena, kind int, size int) (impl.Arena, int, int) {
	n := size + 1
	if n > a.Semi-1 { // 1.
		return a, 0, impl.NoMem
	}
	inUse := a.Top - (a.To*a.Semi + 1)
	if a.Cycle { // 2.
		a, _ = modelStep(a, 2)
	} else if inUse+inUse > a.Semi-1 {
		a, _ = modelFlip(a)
		a, _ = modelStep(a, 2)
	}
	if n > modelFree(a) { // 3.
		a, _ = modelCollect(a)
	}
	if n > modelFree(a) { // 4.
		return a, 0, impl.NoMem
	}
	a = moverOf(a).Arena // 5.
	h := impl.Head{Kind: kind, Size: size}
	if kind == impl.KTab || kind == impl.KFun || kind == impl.KCo {
		h.Serial = a.Serial
		a.Serial++
	}
	at := a.Top
	a.Words[at] = packed(h)
	for i := range size {
		a.Words[at+1+i] = 0
	}
	a.Top += n
	return a, at, impl.Done
}

func areRoots(a impl.Arena, numbers ...int) bool {
	for _, r := range numbers {
		if r < 0 || r >= len(a.Roots) {
			return false
		}
	}
	return true
}

// slotsThere has the places of the slots of the object that a Root leads to.
func slotsThere(a impl.Arena, r int) []int {
	v := a.Roots[r]
	if !impl.IsRef(v) {
		return nil
	}
	h, _ := impl.ReadHead(a.Words[v.N])
	var places []int
	for _, slot := range impl.Slots(h.Kind, h.Size) {
		places = append(places, v.N+slot)
	}
	return places
}

func modelLoad(a impl.Arena, r int, slot int, into int) (impl.Arena, bool) {
	if !modelOk(a) || !areRoots(a, r, into) || a.Roots[r].Tag == impl.TTab {
		return a, false
	}
	places := slotsThere(a, r)
	if slot < 0 || slot >= len(places) {
		return a, false
	}
	m := moverOf(a)
	v, _ := impl.GetVal(m.Words, places[slot])
	if m.Cycle {
		v = m.forward(v)
		copy(m.Words[places[slot]:], pairs(v))
	}
	m.Roots[into] = v
	return m.Arena, true
}

func modelNewCell(a impl.Arena, from int, into int) (impl.Arena, int) {
	if !modelOk(a) || !areRoots(a, from, into) {
		return a, impl.Bad
	}
	a, at, code := modelAsk(a, impl.KCell, 2)
	if code == impl.Done {
		copy(a.Words[at+1:], pairs(a.Roots[from]))
		a.Roots[into] = ref(impl.TCell, at)
	}
	return a, code
}

func modelSetCell(a impl.Arena, r int, from int) (impl.Arena, bool) {
	if !modelOk(a) || !areRoots(a, r, from) || a.Roots[r].Tag != impl.TCell {
		return a, false
	}
	a = moverOf(a).Arena
	copy(a.Words[a.Roots[r].N+1:], pairs(a.Roots[from]))
	return a, true
}

func modelNewFun(a impl.Arena, proto int, cells []int, into int) (impl.Arena, int) {
	if !modelOk(a) || !areRoots(a, into) || proto < 0 || proto > 255 || len(cells) > 12 || !areRoots(a, cells...) || a.Serial == 1000000000 {
		return a, impl.Bad
	}
	for _, r := range cells {
		if a.Roots[r].Tag != impl.TCell {
			return a, impl.Bad
		}
	}
	a, at, code := modelAsk(a, impl.KFun, 1+2*len(cells))
	if code == impl.Done {
		a.Words[at+1] = uint64(proto)
		for i, r := range cells {
			copy(a.Words[at+2+2*i:], pairs(a.Roots[r]))
		}
		a.Roots[into] = ref(impl.TFun, at)
	}
	return a, code
}

func modelSame(a impl.Arena, r int, s int) bool {
	if !areRoots(a, r, s) || a.Roots[r].Tag != a.Roots[s].Tag {
		return false
	}
	v, w := a.Roots[r], a.Roots[s]
	if v.Tag == impl.TStr {
		size := int(a.Words[v.N+1]+7)/8 + 1
		return a.Words[v.N+1] == a.Words[w.N+1] && slices.Equal(a.Words[v.N+1:v.N+1+size], a.Words[w.N+1:w.N+1+size])
	}
	return v.N == w.N
}

// checkDoor: a call answers as the model does, in memory of its own, and the arena that is left is right.
func checkDoor(t *testing.T, call string, a impl.Arena, got impl.Arena, code any, want impl.Arena, answer any) {
	t.Helper()
	if code != answer || !sameArena(got, want) {
		t.Fatalf("%s answers %v, want %v:\n%+v\nwant\n%+v\nof\n%+v", call, code, answer, got, want, a)
	}
	if !impl.ArenaOk(got) {
		t.Fatalf("%s leaves an arena that is not right:\n%+v\nof\n%+v", call, got, a)
	}
}

// doorCalls are numbers for one call of each door.
type doorCalls struct {
	r, s, slot, proto int
	cells             []int
}

// checkDoors holds all functions of the chapter against the model at one right arena.
func checkDoors(t *testing.T, a impl.Arena, c doorCalls) {
	t.Helper()
	in := roomy(a)
	was := allOf(in)
	cells := append(slices.Clone(c.cells), 81, 82)[:len(c.cells)]

	out, ok := impl.Load(in, c.r, c.slot, c.s)
	want, yes := modelLoad(a, c.r, c.slot, c.s)
	checkDoor(t, fmt.Sprint("Load ", c), a, out, ok, want, yes)
	if ok {
		checkLoaded(t, a, c, out)
	}
	checkOwn(t, out, whole(in), was)

	out, code := impl.NewCell(in, c.r, c.s)
	want, answer := modelNewCell(a, c.r, c.s)
	checkDoor(t, fmt.Sprint("NewCell ", c), a, out, code, want, answer)
	checkRoom(t, a, 3, out, code)
	checkOwn(t, out, whole(in), was)

	out, ok = impl.SetCell(in, c.r, c.s)
	want, yes = modelSetCell(a, c.r, c.s)
	checkDoor(t, fmt.Sprint("SetCell ", c), a, out, ok, want, yes)
	checkOwn(t, out, whole(in), was)

	out, code = impl.NewFun(in, c.proto, cells, c.s)
	want, answer = modelNewFun(a, c.proto, c.cells, c.s)
	checkDoor(t, fmt.Sprint("NewFun ", c), a, out, code, want, answer)
	checkRoom(t, a, 2+2*len(cells), out, code)
	checkOwn(t, out, whole(in), was)

	checkLooked(t, in, c)
	if !sameArena(whole(in), was) || !slices.Equal(cells[:cap(cells)][:len(cells)+2], append(slices.Clone(c.cells), 81, 82)) {
		t.Fatal("an argument was written into")
	}
}

// checkLoaded: what is loaded is what stood there.
func checkLoaded(t *testing.T, a impl.Arena, c doorCalls, out impl.Arena) {
	t.Helper()
	stood := moverOf(a).Arena
	stood.Roots[c.s], _ = impl.GetVal(a.Words, slotsThere(a, c.r)[c.slot])
	checkStays(t, fmt.Sprint("Load ", c), out, taleOf(stood))
}

// checkRoom: room lacks just when what can be reached and what is asked for are more than the half has, and then no Root is another value.
func checkRoom(t *testing.T, a impl.Arena, n int, out impl.Arena, code int) {
	t.Helper()
	if code == impl.Bad {
		return
	}
	if lacks := impl.Reached(a)+n > a.Semi-1; lacks != (code == impl.NoMem) {
		t.Fatalf("%d asked for, %d reached, %d in a half: %d", n, impl.Reached(a), a.Semi-1, code)
	}
	if code == impl.NoMem {
		checkStays(t, "NoMem", out, taleOf(a))
	}
}

func checkLooked(t *testing.T, a impl.Arena, c doorCalls) {
	t.Helper()
	if got, want := impl.SameRoots(a, c.r, c.s), modelSame(a, c.r, c.s); got != want {
		t.Fatalf("SameRoots %d, %d is %v of %v", c.r, c.s, got, a.Roots)
	}
	serial, proto, isFun := 0, 0, false
	if areRoots(a, c.r) && impl.IsRef(a.Roots[c.r]) {
		h, _ := impl.ReadHead(a.Words[a.Roots[c.r].N])
		serial = h.Serial
		if isFun = h.Kind == impl.KFun; isFun {
			proto = int(a.Words[a.Roots[c.r].N+1])
		}
	}
	if got := impl.SerialOf(a, c.r); got != serial {
		t.Fatalf("SerialOf %d is %d, want %d", c.r, got, serial)
	}
	if got, ok := impl.ProtoOf(a, c.r); got != proto || ok != isFun {
		t.Fatalf("ProtoOf %d is %d, %v", c.r, got, ok)
	}
}

// someCalls are numbers by chance, most of them of Roots, and most cells of boxes.
func someCalls(r *rand.Rand, a impl.Arena) doorCalls {
	n := len(a.Roots)
	c := doorCalls{r: r.Intn(n+2) - 1, s: r.Intn(n+2) - 1, slot: r.Intn(5) - 1, proto: r.Intn(300) - 20}
	if r.Intn(4) == 0 {
		c.slot = r.Intn(65) - 1
	}
	var boxes []int
	for i, v := range a.Roots {
		if v.Tag == impl.TCell || r.Intn(40) == 0 {
			boxes = append(boxes, i)
		}
	}
	for range r.Intn(14) {
		if len(boxes) > 0 {
			c.cells = append(c.cells, boxes[r.Intn(len(boxes))])
		}
	}
	return c
}

func TestDoorsOfTheSamples(t *testing.T) {
	r := rand.New(rand.NewSource(4))
	for _, s := range samples() {
		for range 40 {
			checkDoors(t, s.Arena, someCalls(r, s.Arena))
		}
	}
}

// passed is the arena behind one of the doors; in some of them what is made keeps what was in its Root, so that room lacks in the end.
func passed(r *rand.Rand, a impl.Arena, c doorCalls, keep bool) (impl.Arena, int) {
	code := impl.Done
	door := r.Intn(8)
	if keep {
		door = r.Intn(5)
		c.r = c.s
	}
	switch door {
	case 0, 1, 2:
		a, code = impl.NewCell(a, c.r, c.s)
	case 3, 4:
		if keep {
			c.cells = append(c.cells, c.s)
		}
		a, code = impl.NewFun(a, c.proto&0xFF, c.cells, c.s)
	case 5:
		a, _ = impl.SetCell(a, c.r, c.s)
	case 6:
		a, _ = impl.Load(a, c.r, c.slot, c.s)
	case 7:
		a, _ = impl.SetRoot(a, c.r, num(c.slot))
	}
	return a, code
}

// Arenas that are grown by chance fill up, call by call, while cycles begin and end.
func TestDoorsOfWhatHasGrown(t *testing.T) {
	t.Parallel()
	r := rand.New(rand.NewSource(44))
	cycles, flips, lacks := 0, 0, 0
	for i := range 70 {
		a := grown(r)
		for range 60 {
			c := someCalls(r, a)
			checkDoors(t, a, c)
			was := a
			var code int
			a, code = passed(r, a, c, i%2 == 0)
			if a.Cycle {
				cycles++
			}
			if a.To != was.To {
				flips++
			}
			if code == impl.NoMem {
				lacks++
			}
		}
	}
	if cycles < 100 || flips < 50 || lacks < 20 {
		t.Error("too few of some:", cycles, "cycles run,", flips, "flips,", lacks, "times no room")
	}
}

// Arenas that come of chance, right ones among them that no run of the program would leave behind.
func TestDoorsOfTurnedSamples(t *testing.T) {
	t.Parallel()
	r := rand.New(rand.NewSource(444))
	right := 0
	for range 3000 {
		s := stillSample(impl.MinSemi, r.Intn(2))
		if r.Intn(3) > 0 {
			s = cycleSample(impl.MinSemi, s.To)
		}
		turnAtRandom(r, &s)
		if modelOk(s.Arena) {
			checkDoors(t, s.Arena, someCalls(r, s.Arena))
			right++
			continue
		}
		checkShut(t, "a turned sample", s.Arena)
	}
	if right < 300 {
		t.Error("only", right, "were right")
	}
}
