package tests

import (
	"fmt"
	"math/rand"
	"strings"
	"testing"

	"loop.example/g00101/impl"
)

// The model of texts: by the document's words, from the models of chapters 2 to 4 alone.

func modelTell(a impl.Arena, r int) (string, bool) {
	if !modelOk(a) || !areRoots(a, r) || a.Roots[r].Tag != impl.TStr {
		return "", false
	}
	return model{Arena: a}.textOf(a.Roots[r].N), true
}

func modelPut(a impl.Arena, s string, into int) (impl.Arena, int) {
	if !modelOk(a) || !areRoots(a, into) || len(s) > 160 {
		return a, impl.Bad
	}
	a, at, code := modelAsk(a, impl.KStr, 1+(len(s)+7)/8)
	if code == impl.Done {
		(&layer{a.Words, at}).text(s)
		a.Roots[into] = ref(impl.TStr, at)
	}
	return a, code
}

func modelJoin(a impl.Arena, r int, s int, into int) (impl.Arena, int) {
	one, isOne := modelTell(a, r)
	two, isTwo := modelTell(a, s)
	if !isOne || !isTwo {
		return a, impl.Bad
	}
	return modelPut(a, one+two, into)
}

// order compares two texts byte by byte; a beginning is less.
func order(one string, two string) int {
	for i := 0; i < len(one) && i < len(two); i++ {
		if one[i] < two[i] {
			return -1
		}
		if one[i] > two[i] {
			return 1
		}
	}
	switch {
	case len(one) < len(two):
		return -1
	case len(one) > len(two):
		return 1
	}
	return 0
}

func modelCompare(a impl.Arena, r int, s int) (int, bool) {
	one, isOne := modelTell(a, r)
	two, isTwo := modelTell(a, s)
	if !isOne || !isTwo {
		return 0, false
	}
	return order(one, two), true
}

// textCalls are what each function of the chapter is called with once.
type textCalls struct {
	r, s, into int
	text       string
}

// checkTexts holds all functions of the chapter against the model at one right arena.
func checkTexts(t *testing.T, a impl.Arena, c textCalls) {
	t.Helper()
	in := roomy(a)
	was := allOf(in)

	out, code := impl.PutText(in, c.text, c.into)
	want, answer := modelPut(a, c.text, c.into)
	checkDoor(t, fmt.Sprintf("PutText %q into %d", c.text, c.into), a, out, code, want, answer)
	checkMade(t, a, c.text, c.into, out, code)
	checkOwn(t, out, whole(in), was)

	out, code = impl.JoinText(in, c.r, c.s, c.into)
	want, answer = modelJoin(a, c.r, c.s, c.into)
	checkDoor(t, fmt.Sprintf("JoinText %d, %d into %d", c.r, c.s, c.into), a, out, code, want, answer)
	one, isOne := modelTell(a, c.r)
	two, isTwo := modelTell(a, c.s)
	if isOne && isTwo {
		checkMade(t, a, one+two, c.into, out, code)
	}
	checkOwn(t, out, whole(in), was)

	if got, ok := impl.TextOf(in, c.r); got != one || ok != isOne {
		t.Fatalf("TextOf %d is %q, %v, want %q, %v", c.r, got, ok, one, isOne)
	}
	least, both := modelCompare(a, c.r, c.s)
	if got, ok := impl.CompareText(in, c.r, c.s); got != least || ok != both {
		t.Fatalf("CompareText %q, %q is %d, %v, want %d, %v", one, two, got, ok, least, both)
	}
	if !sameArena(whole(in), was) {
		t.Fatal("the argument was written into")
	}
}

// checkMade: room lacks just when it must; what was made is told as it was put, and all that can be reached by the other Roots is what it was.
func checkMade(t *testing.T, a impl.Arena, text string, into int, out impl.Arena, code int) {
	t.Helper()
	checkRoom(t, a, 2+(len(text)+7)/8, out, code)
	if code != impl.Done {
		return
	}
	if got, ok := impl.TextOf(out, into); !ok || got != text {
		t.Fatalf("%q is told as %q, %v", text, got, ok)
	}
	ahead, _ := impl.SetRoot(a, into, impl.Val{})
	behind, _ := impl.SetRoot(out, into, impl.Val{})
	if !sameTale(taleOf(ahead), taleOf(behind)) {
		t.Fatalf("with %q put, what can be reached besides was\n%v\nand is\n%v", text, taleOf(ahead), taleOf(behind))
	}
}

// someText has bytes of all kinds, and most often a length at which a word begins, ends or is left over.
func someText(r *rand.Rand) string {
	n := r.Intn(impl.MaxText + 3)
	if r.Intn(3) > 0 {
		n = edgeLengths()[r.Intn(len(edgeLengths()))]
	}
	b := make([]byte, n)
	for i := range b {
		switch r.Intn(4) {
		case 0:
			b[i] = "\x00\xff\x80\x7f\xc3\xa9"[r.Intn(6)]
		case 1:
			b[i] = byte(r.Intn(256))
		default:
			b[i] = "abAZ"[r.Intn(4)]
		}
	}
	return string(b)
}

// someRoot is a number by chance: most often of a text, if there is one.
func someRoot(r *rand.Rand, a impl.Arena) int {
	var texts []int
	for i, v := range a.Roots {
		if v.Tag == impl.TStr {
			texts = append(texts, i)
		}
	}
	if len(texts) > 0 && r.Intn(4) > 0 {
		return texts[r.Intn(len(texts))]
	}
	return r.Intn(len(a.Roots)+2) - 1
}

func someTextCalls(r *rand.Rand, a impl.Arena) textCalls {
	return textCalls{r: someRoot(r, a), s: someRoot(r, a), into: r.Intn(len(a.Roots)+2) - 1, text: someText(r)}
}

func TestTextsOfTheSamples(t *testing.T) {
	r := rand.New(rand.NewSource(5))
	for _, s := range samples() {
		for range 40 {
			checkTexts(t, s.Arena, someTextCalls(r, s.Arena))
		}
	}
}

// wrote is the arena behind a call that puts or joins; now and then texts are laid into boxes, taken out of them, or a cycle is begun by hand.
func wrote(r *rand.Rand, a impl.Arena, c textCalls) (impl.Arena, int) {
	code := impl.Done
	switch r.Intn(9) {
	case 0, 1, 2:
		a, code = impl.PutText(a, c.text, c.into)
	case 3, 4:
		a, code = impl.JoinText(a, c.r, c.s, c.into)
	case 5:
		a, code = impl.NewCell(a, c.r, c.into)
	case 6:
		a, _ = impl.Load(a, c.into, 0, c.s)
	case 7:
		a, _ = impl.Flip(a)
	case 8:
		a, _ = impl.CopyStep(a, r.Intn(3))
	}
	return a, code
}

// Arenas that are grown by chance fill up with texts, call by call, while cycles begin and end.
func TestTextsOfWhatHasGrown(t *testing.T) {
	t.Parallel()
	r := rand.New(rand.NewSource(55))
	cycles, flips, lacks, refused := 0, 0, 0, 0
	for range 60 {
		a := grown(r)
		for range 60 {
			c := someTextCalls(r, a)
			checkTexts(t, a, c)
			was := a
			var code int
			a, code = wrote(r, a, c)
			if a.Cycle {
				cycles++
			}
			if a.To != was.To {
				flips++
			}
			if code == impl.NoMem {
				lacks++
			}
			if code == impl.Bad {
				refused++
			}
		}
	}
	if cycles < 100 || flips < 50 || lacks < 20 || refused < 20 {
		t.Error("too few of some:", cycles, "cycles run,", flips, "flips,", lacks, "times no room,", refused, "refused")
	}
}

// Arenas that come of chance, right ones among them that no run of the program would leave behind.
func TestTextsOfTurnedSamples(t *testing.T) {
	t.Parallel()
	r := rand.New(rand.NewSource(555))
	right := 0
	for range 3000 {
		s := stillSample(impl.MinSemi, r.Intn(2))
		if r.Intn(3) > 0 {
			s = cycleSample(impl.MinSemi, s.To)
		}
		turnAtRandom(r, &s)
		if modelOk(s.Arena) {
			checkTexts(t, s.Arena, someTextCalls(r, s.Arena))
			right++
			continue
		}
		checkNoTexts(t, "a turned sample", s.Arena)
	}
	if right < 300 {
		t.Error("only", right, "were right")
	}
}

// The model itself, by hand.
func TestModelOfTexts(t *testing.T) {
	for _, x := range []struct {
		one, two string
		want     int
	}{{"", "", 0}, {"", "a", -1}, {"b", "ab", 1}, {"a\xff", "a\x7f", 1}, {"abc", "abcd", -1}} {
		if order(x.one, x.two) != x.want || order(x.two, x.one) != -x.want {
			t.Errorf("%q and %q", x.one, x.two)
		}
	}
	a := newArena(impl.MinSemi, 1)
	a.Roots = make([]impl.Val, 1)
	a, _ = modelPut(a, strings.Repeat("ab", 5), 0)
	if s, ok := modelTell(a, 0); !ok || s != "ababababab" || a.Top != 257+4 {
		t.Error("the model tells", s)
	}
}
