package tests

import (
	"fmt"
	"math/rand"
	"slices"
	"strings"
	"testing"

	"loop.example/g00101/impl"
)

// mover copies by the document's words, word by word and by functions of chapters 1 and 2 alone: the program is held against it.
type mover struct{ impl.Arena }

func moverOf(a impl.Arena) *mover {
	a.Words = slices.Clone(a.Words)
	a.Roots = slices.Clone(a.Roots)
	return &mover{a}
}

func (m *mover) forward(v impl.Val) impl.Val {
	if !impl.IsRef(v) || v.N/m.Semi == m.To {
		return v
	}
	if to, ok := impl.Forwarded(m.Words[v.N]); ok {
		return ref(v.Tag, to)
	}
	h, _ := impl.ReadHead(m.Words[v.N])
	to := m.Top
	for range h.Size + 1 {
		m.Words[m.Top] = m.Words[v.N+m.Top-to]
		m.Top++
		m.Copied++
	}
	m.Words[v.N] = 1<<63 + uint64(to)
	return ref(v.Tag, to)
}

func (m *mover) over() {
	if m.Cycle && m.Scan == m.Top {
		m.Cycle = false
		m.Scan, m.Old, m.Copied = 0, 0, 0
	}
}

func modelFlip(a impl.Arena) (impl.Arena, bool) {
	m := moverOf(a)
	if !modelOk(a) || a.Cycle {
		return m.Arena, false
	}
	m.Cycle, m.To, m.Old, m.Copied = true, 1-a.To, a.Top, 0
	m.Top = m.To*m.Semi + 1
	m.Scan = m.Top
	for i := range m.Roots {
		m.Roots[i] = m.forward(m.Roots[i])
	}
	m.over()
	return m.Arena, true
}

// step goes over the object at Scan.
func (m *mover) step() {
	h, _ := impl.ReadHead(m.Words[m.Scan])
	for _, slot := range impl.Slots(h.Kind, h.Size) {
		v, _ := impl.GetVal(m.Words, m.Scan+slot)
		copy(m.Words[m.Scan+slot:], pairs(m.forward(v)))
	}
	m.Scan += h.Size + 1
	m.over()
}

func modelStep(a impl.Arena, n int) (impl.Arena, int) {
	m := moverOf(a)
	if n < 1 || !modelOk(a) {
		return m.Arena, 0
	}
	m.over()
	gone := 0
	for ; gone < n && m.Cycle; gone++ {
		m.step()
	}
	return m.Arena, gone
}

func modelFinish(a impl.Arena) (impl.Arena, int) {
	return modelStep(a, max(1, len(a.Words))) // there are fewer objects than words
}

func modelCollect(a impl.Arena) (impl.Arena, bool) {
	if !modelOk(a) {
		return moverOf(a).Arena, false
	}
	a, _ = modelFinish(a)
	a, _ = modelFlip(a)
	a, _ = modelFinish(a)
	return a, true
}

// tale is what can be reached, without places: objects go by the order in which they are come to.
type tale struct {
	lines []string
	words int
}

func taleOf(a impl.Arena) tale {
	numbers := map[int]int{}
	var places []int
	tell := func(v impl.Val) string {
		if !impl.IsRef(v) {
			return fmt.Sprint(" ", v.Tag, ":", v.N)
		}
		at := v.N
		if to, moved := impl.Forwarded(a.Words[at]); moved {
			at = to
		}
		if _, known := numbers[at]; !known {
			numbers[at] = len(places)
			places = append(places, at)
		}
		return fmt.Sprint(" ", v.Tag, ":#", numbers[at])
	}
	var line strings.Builder
	for _, v := range a.Roots {
		line.WriteString(tell(v))
	}
	t := tale{lines: []string{line.String()}}
	for i := 0; i < len(places); i++ {
		at := places[i]
		h, _ := impl.ReadHead(a.Words[at])
		t.words += h.Size + 1
		slots := impl.Slots(h.Kind, h.Size)
		plain := h.Size
		if len(slots) > 0 {
			plain = slots[0] - 1
		}
		line.Reset()
		fmt.Fprint(&line, h, a.Words[at+1:at+1+plain])
		for _, slot := range slots {
			v, _ := impl.GetVal(a.Words, at+slot)
			line.WriteString(tell(v))
		}
		t.lines = append(t.lines, line.String())
	}
	return t
}

func sameTale(a tale, b tale) bool {
	return a.words == b.words && slices.Equal(a.lines, b.lines)
}

// checkStays: an answer is right, and says what was said ahead of it.
func checkStays(t *testing.T, name string, out impl.Arena, was tale) {
	t.Helper()
	if !impl.ArenaOk(out) || !modelOk(out) {
		t.Fatalf("%s: the answer is not right", name)
	}
	if now := taleOf(out); !sameTale(now, was) {
		t.Fatalf("%s: what can be reached was\n%v\nand is\n%v", name, was, now)
	}
	if n := impl.Reached(out); n != was.words {
		t.Fatalf("%s: Reached is %d, want %d", name, n, was.words)
	}
}

// checkJust: the half in use has just what can be reached, one right behind the other.
func checkJust(t *testing.T, name string, out impl.Arena) {
	t.Helper()
	begin := out.To*out.Semi + 1
	if out.Cycle || out.Top-begin != impl.Reached(out) || impl.Free(out) != out.Semi-1-impl.Reached(out) {
		t.Fatalf("%s: %d words in use, %d reached, %d free", name, out.Top-begin, impl.Reached(out), impl.Free(out))
	}
	if len(impl.Objects(out)) != len(taleOf(out).lines)-1 {
		t.Fatalf("%s: %d objects in use, %d reached", name, len(impl.Objects(out)), len(taleOf(out).lines)-1)
	}
}

// checkCopying holds all functions of the chapter against the model at one right arena.
func checkCopying(t *testing.T, a impl.Arena) {
	t.Helper()
	in := roomy(a)
	was, said := allOf(in), taleOf(a)
	if n := impl.Reached(in); n != said.words {
		t.Fatalf("Reached is %d, want %d", n, said.words)
	}
	check := func(name string, out impl.Arena, got any, want impl.Arena, answer any) {
		t.Helper()
		if got != answer || !sameArena(out, want) {
			t.Fatalf("%s answers %v, want %v:\n%+v\nwant\n%+v\nof\n%+v", name, got, answer, out, want, a)
		}
		checkStays(t, name, out, said)
		checkOwn(t, out, whole(in), was)
	}
	out, ok := impl.Flip(in)
	want, yes := modelFlip(a)
	check("Flip", out, ok, want, yes)
	for _, n := range []int{-1, 0, 1, 2, 3, 1000} {
		out, gone := impl.CopyStep(in, n)
		want, count := modelStep(a, n)
		check(fmt.Sprint("CopyStep ", n), out, gone, want, count)
	}
	out, gone := impl.Finish(in)
	want, count := modelFinish(a)
	check("Finish", out, gone, want, count)
	out, ok = impl.Collect(in)
	checkJust(t, "Collect", out)
	want, yes = modelCollect(a)
	check("Collect", out, ok, want, yes)
}

func TestCopyingOfTheSamples(t *testing.T) {
	for _, s := range samples() {
		checkCopying(t, s.Arena)
	}
}

// Arenas that come of chance, right ones among them that no run of the program would leave behind.
func TestCopyingOfTurnedSamples(t *testing.T) {
	t.Parallel()
	r := rand.New(rand.NewSource(3))
	right := 0
	for range 8000 {
		s := stillSample(impl.MinSemi, r.Intn(2))
		if r.Intn(3) > 0 {
			s = cycleSample(impl.MinSemi, s.To)
		}
		for range 1 + r.Intn(3) {
			turnAtRandom(r, &s)
		}
		if modelOk(s.Arena) {
			checkCopying(t, s.Arena)
			right++
			continue
		}
		checkNotCopied(t, "a turned sample", s.Arena)
	}
	if right < 500 {
		t.Error("only", right, "were right")
	}
}
