package tests

import (
	"bytes"
	"encoding/hex"
	"fmt"
	"math/rand"
	"strings"
	"testing"

	"loop.example/g00101/impl"
)

func TestImageConstants(t *testing.T) {
	if impl.MaxImage != 70000 {
		t.Error("MaxImage", impl.MaxImage)
	}
}

// inBytes reads rows of bytes written out in hexadecimal digits.
func inBytes(rows ...string) []byte {
	b, err := hex.DecodeString(strings.ReplaceAll(strings.Join(rows, ""), " ", ""))
	if err != nil {
		panic(err)
	}
	return b
}

// smallArena has a box of -1 at 1 and a function at 4, that has it; what is not in use has words of its own.
func smallArena() impl.Arena {
	a := newArena(256, 0)
	l := &layer{a.Words, a.Top}
	box := ref(impl.TCell, l.cell(num(-1)))
	fun := ref(impl.TFun, l.fun(1, 200, box))
	a.Top, a.Serial = l.at, 2
	a.Roots = []impl.Val{box, num(-1), fun}
	return a
}

// smallImage is its image: Semi, To, Top; Cycle, Scan, Old; Copied, Serial, how many Roots; the Roots; the words; the sum.
func smallImage() []byte {
	return inBytes(
		"0001000000000000 0000000000000000 0800000000000000",
		"0000000000000000 0000000000000000 0000000000000000",
		"0000000000000000 0200000000000000 0300000000000000",
		"0900000000000000 0100000000000000",
		"0200000000000000 ffffffffffffffff",
		"0500000000000000 0400000000000000",
		"2500000000000000 0200000000000000 ffffffffffffffff",
		"3400100000000000 c800000000000000 0900000000000000 0100000000000000",
		"4d02100000000000",
	)
}

// runningArena is that one with its function alone in a Root, and flipped: the function was copied to 257, the box was not.
func runningArena() impl.Arena {
	a := smallArena()
	a.Roots = a.Roots[2:]
	return flippedOf(a)
}

func runningImage() []byte {
	return inBytes(
		"0001000000000000 0100000000000000 0501000000000000",
		"0100000000000000 0101000000000000 0800000000000000",
		"0400000000000000 0200000000000000 0100000000000000",
		"0500000000000000 0101000000000000",
		"3400100000000000 c800000000000000 0900000000000000 0100000000000000",
		"2500000000000000 0200000000000000 ffffffffffffffff",
		"0101000000000080 c800000000000000 0900000000000000 0100000000000000",
		"1c07100000000080",
	)
}

// emptyImage is that of NewArena(256, 0).
func emptyImage() []byte {
	return inBytes(
		"0001000000000000 0000000000000000 0100000000000000",
		"0000000000000000 0000000000000000 0000000000000000",
		"0000000000000000 0100000000000000 0000000000000000",
		"0201000000000000",
	)
}

func checkBytes(t *testing.T, name string, a impl.Arena, want []byte) {
	t.Helper()
	b, ok := impl.Image(a)
	if !ok || !bytes.Equal(b, want) {
		t.Errorf("%s: %v\n%x\nwant\n%x", name, ok, b, want)
	}
	c, ok := impl.Restore(want)
	if !ok || !sameArena(c, blank(a)) {
		t.Errorf("%s: restored %v\n%+v\nwant\n%+v", name, ok, c, blank(a))
	}
	checkImage(t, name, a)
}

// Byte for byte.
func TestImageByHand(t *testing.T) {
	checkBytes(t, "no cycle", smallArena(), smallImage())
	checkBytes(t, "a cycle", runningArena(), runningImage())
	empty, _ := impl.NewArena(256, 0)
	checkBytes(t, "empty", empty, emptyImage())
}

// What is restored has nothing of the words that are not in use: not those behind Top, nor the first one of a half, nor a half that was left behind.
func TestImageTellsWhatIsInUseAlone(t *testing.T) {
	a := smallArena()
	for _, at := range []int{0, 8, 255, 256, 257, 511} {
		a.Words[at] = 1<<63 + uint64(at)
		checkBytes(t, fmt.Sprint("the word ", at), a, smallImage())
	}
	b := runningArena()
	for _, at := range []int{0, 8, 255, 256, 261, 511} {
		b.Words[at] = 1<<63 + uint64(at)
		checkBytes(t, fmt.Sprint("a cycle, the word ", at), b, runningImage())
	}
	// What is left of an object that was copied is told as it stands.
	b.Words[5], b.Words[7] = 1<<64-1, 0xABCDEF
	want := imageNumbers(b)
	checkBytes(t, "what is left", b, summed(want...))
	if want[9+2+4+4] != 1<<64-1 || want[9+2+4+6] != 0xABCDEF {
		t.Error("what is left stands elsewhere", want)
	}
	// Behind the cycle's end the other half is told no more.
	over, _ := impl.Finish(runningArena())
	if over.Cycle || over.To != 1 || over.Top != 264 {
		t.Fatal("not what is to be tested")
	}
	if b := checkImage(t, "the cycle is over", over); len(b) != 8*(9+2+7+1) {
		t.Error("the cycle is over", len(b))
	}
}

// The sum wraps at 64 bits, once or more often.
func TestImageSumWraps(t *testing.T) {
	for _, n := range []int{1, 2, 3, 15} {
		a := newArena(256, 0)
		l := &layer{a.Words, a.Top}
		for range n {
			l.cell(num(-1 << 63))
		}
		a.Top = l.at
		b := checkImage(t, fmt.Sprint(n, " boxes"), a)
		// Of each box: 37, 2, 2^63; and Semi, Top, Serial.
		sum := uint64(256+1+3*n+1+39*n) + uint64(n%2)<<63
		if !bytes.Equal(b[len(b)-8:], bytesOf(sum)) {
			t.Errorf("%d boxes: the sum is %x, want %x", n, b[len(b)-8:], bytesOf(sum))
		}
	}
	a, _ := impl.NewArena(256, 1)
	a, _ = impl.SetRoot(a, 0, num(-256-1-1-1-2)) // 256, 1, 1, 1 and 2 are all other numbers
	if b := checkImage(t, "a sum of 0", a); !bytes.Equal(b[len(b)-8:], make([]byte, 8)) {
		t.Errorf("the sum is %x", b[len(b)-8:])
	}
}

// The greatest image of all: both halves full to the end, as many Roots as there may be.
func TestGreatestImages(t *testing.T) {
	for to := range 2 {
		full := chain(impl.MaxSemi, to, 1333)
		for len(full.Roots) < impl.MaxRoots {
			full.Roots = append(full.Roots, num(-len(full.Roots)))
		}
		if b := checkImage(t, "a full half", full); len(b) != 8*(9+48+3999+1) {
			t.Error("a full half", len(b))
		}
		running := flippedOf(full)
		if b := checkImage(t, "a full half, flipped", running); len(b) != 8*(9+48+3+3999+1) {
			t.Error("flipped", len(b))
		}
		running, _ = impl.CopyStep(running, 1332)
		if b := checkImage(t, "both halves full", running); len(b) != 8*(9+48+2*3999+1) || len(b) > impl.MaxImage || !running.Cycle {
			t.Error("both halves full", len(b))
		}
		over, _ := impl.Finish(running)
		checkImage(t, "full, and the cycle is over", over)
	}
}

// Whatever may be in a Root: each kind of value, with the least and the greatest number.
func TestImagesOfRoots(t *testing.T) {
	for n := range impl.MaxRoots + 1 {
		a, _ := impl.NewArena(300, n)
		for r := range n {
			a, _ = impl.SetRoot(a, r, []impl.Val{num(r), num(-r), num(1<<63 - 1), num(-1 << 63), yes(), {}, {Tag: impl.TLib, N: 20}}[r%7])
		}
		if b := checkImage(t, fmt.Sprint(n, " Roots"), a); len(b) != 8*(9+2*n+1) {
			t.Errorf("%d Roots: %d bytes", n, len(b))
		}
	}
	for _, v := range rightVals() {
		if impl.IsRef(v) {
			continue
		}
		a, _ := impl.NewArena(256, 2)
		a, _ = impl.SetRoot(a, 1, v)
		checkImage(t, fmt.Sprint("the Root ", v), a)
	}
}

func TestImagesOfTheSamples(t *testing.T) {
	for i, s := range samples() {
		checkImage(t, fmt.Sprint("sample ", i), s.Arena)
		s.Roots = nil
		checkImage(t, fmt.Sprint("sample ", i, " without Roots"), s.Arena)
		s.Serial = impl.MaxSerial
		checkImage(t, fmt.Sprint("sample ", i, " with MaxSerial"), s.Arena)
	}
}

// zoosOf are arenas with objects of all kinds, by name.
func zoosOf(to int) map[string]impl.Arena {
	return map[string]impl.Arena{
		"zoo":     zoo(400, to),
		"shelf":   shelf(300, to),
		"library": library(400, to),
		"cabinet": cabinet(900, to),
		"sample":  stillSample(300, to).Arena,
		"chain":   chain(300, to, 9),
		"small":   flippedOf(smallArena()),
		"empty":   newArena(256, to),
		"full":    filled(to),
	}
}

// Ahead of a flip, at each step of a cycle, behind its end, and behind a collection.
func TestImagesStepByStep(t *testing.T) {
	cycles := 0
	for to := range 2 {
		for name, a := range zoosOf(to) {
			for round := range 2 {
				checkImage(t, name, a)
				for a = flippedOf(a); a.Cycle; a, _ = impl.CopyStep(a, 1) {
					checkImage(t, fmt.Sprint(name, ", in cycle ", round), a)
					checkKins(t, fmt.Sprint(name, ", in cycle ", round), a)
					cycles++
				}
			}
			a, _ = impl.Collect(a)
			checkImage(t, name+", collected", a)
			checkKins(t, name+", collected", a)
		}
	}
	if cycles < 100 {
		t.Error("only", cycles, "steps")
	}
}

// A cycle that is handed in with nothing left to go over is told as it is.
func TestImageWhereScanIsTop(t *testing.T) {
	for to := range 2 {
		a := chain(300, to, 4)
		o := &layer{a.Words, (1-to)*300 + 1}
		o.text("never copied")
		o.forward((to*300)+1, 2)
		a.Cycle, a.Scan, a.Old, a.Copied = true, a.Top, o.at, 3
		checkImage(t, "Scan is Top", a)
		a.Old, a.Copied = (1-to)*300+1, 0
		checkImage(t, "nothing in the other half", a)
	}
}

// Promise 15: arenas of all kinds of objects that are grown by chance go through cycles while they are changed.
func TestImagesOfWhatHasGrown(t *testing.T) {
	t.Parallel()
	r := rand.New(rand.NewSource(15))
	cycles, ends := 0, 0
	for range 60 {
		a := grown(r)
		for range 15 {
			checkImage(t, "grown", a)
			checkKins(t, "grown", a)
			ran := a.Cycle
			if ran {
				cycles++
				a, _ = impl.CopyStep(a, r.Intn(4))
			} else {
				a = flippedOf(a)
			}
			if ran && !a.Cycle {
				ends++
			}
			a = changed(r, a)
		}
	}
	if cycles < 200 || ends < 60 {
		t.Error("too few:", cycles, "in a cycle,", ends, "ended")
	}
}

// Tables that are written into by chance, until room lacks, and then still.
func TestImagesThroughManyCycles(t *testing.T) {
	t.Parallel()
	r := rand.New(rand.NewSource(155))
	for range 4 {
		m := newMuddle(r, 300+r.Intn(400), r.Intn(2))
		for range 60 {
			m.act(t)
			checkImage(t, "by chance", m.Arena)
			checkKins(t, "by chance", m.Arena)
		}
	}
}

// A run of calls that each goes on from what was restored says what one says that is never told as an image.
func TestImagesBetweenCalls(t *testing.T) {
	t.Parallel()
	r := rand.New(rand.NewSource(156))
	restored := func(a impl.Arena) impl.Arena {
		b, _ := impl.Image(a)
		c, ok := impl.Restore(b)
		if !ok {
			t.Fatal("not restored")
		}
		return c
	}
	for range 40 {
		a := grown(r)
		b := a
		for range 25 {
			calls := someCalls(r, a)
			b = restored(b)
			seed := r.Int63()
			var one, two int
			a, one = passed(rand.New(rand.NewSource(seed)), a, calls, false)
			b, two = passed(rand.New(rand.NewSource(seed)), b, calls, false)
			if one != two || !sameArena(blank(a), blank(b)) {
				t.Fatalf("the calls tell %d, restored ahead of them %d\n%+v\n%+v", one, two, a, b)
			}
		}
	}
}

// A machine whose arena is restored, wherever it stands, goes on as it would have, word by word.
func TestMachinesGoOnFromImages(t *testing.T) {
	t.Parallel()
	r := rand.New(rand.NewSource(157))
	cycles := 0
	for range 60 {
		text := someProgramText(r)
		m := hosted(t, text, impl.MinSemi+r.Intn(500), someActs(r, r.Intn(20))...)
		x := m
		for range 12 {
			if m.Cycle {
				cycles++
			}
			var ok bool
			if x.Arena, ok = impl.Restore(checkImage(t, text, x.Arena)); !ok || !impl.MachineOk(x) {
				t.Fatalf("%s\nis not right, restored", text)
			}
			for _, a := range someActs(r, 3) {
				m, x = modelAct(m, a), modelAct(x, a)
			}
			if !sameRest(m, x) || !sameArena(blank(m.Arena), blank(x.Arena)) {
				t.Fatalf("%s\nrestored, it tells\n%s\nwant\n%s", text, told(t, x), told(t, m))
			}
		}
	}
	if cycles < 60 {
		t.Error("only", cycles, "in a cycle")
	}
}
