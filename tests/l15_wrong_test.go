package tests

import (
	"fmt"
	"math"
	"math/rand"
	"slices"
	"testing"

	"loop.example/g00101/impl"
)

// checkNoImage: what is no arena has no image, no census, no kin and no ways, and nothing is written into it.
func checkNoImage(t *testing.T, name string, a impl.Arena) {
	t.Helper()
	in := roomy(a)
	was := allOf(in)
	if b, ok := impl.Image(in); ok || len(b) != 0 {
		t.Errorf("%s: Image is %v, %x", name, ok, b)
	}
	if list := impl.Census(in); len(list) != 0 {
		t.Errorf("%s: Census is %v", name, list)
	}
	for _, n := range []int{-1, 0, 1, 2, 3, 4, 5, 6, 7, 8} {
		if list := impl.Kin(in, n); len(list) != 0 {
			t.Errorf("%s: Kin %d is %v", name, n, list)
		}
		if list, ok := impl.Way(in, n); ok || len(list) != 0 {
			t.Errorf("%s: Way %d is %v, %v", name, n, ok, list)
		}
	}
	if !sameArena(whole(in), was) {
		t.Errorf("%s: the argument was written into", name)
	}
}

// One for each point of ArenaOk; checkRefused asks the same of all other wrong ones.
func TestImagesOfWrongArenas(t *testing.T) {
	for _, wrong := range wrongArenas() {
		checkNoImage(t, wrong.name, wrong.Arena)
	}
	for _, s := range samples() { // the same calls are taken where the arena is right
		_, ok := impl.Image(s.Arena)
		if _, there := impl.Way(s.Arena, 1); !ok || !there || len(impl.Census(s.Arena)) != 12 || len(impl.Kin(s.Arena, 1))+len(impl.Kin(s.Arena, 5)) == 0 {
			t.Error("of a right arena nothing is told")
		}
	}
}

// checkNoArena: these bytes are the image of none, by the model as well.
func checkNoArena(t *testing.T, name string, b []byte) {
	t.Helper()
	if a, ok := checkRestore(t, name, b); ok || !sameArena(a, impl.Arena{}) {
		t.Errorf("%s: restored: %+v", name, a)
	}
}

// rightImages are those of all that is at hand, by name.
func rightImages(t *testing.T) map[string][]byte {
	t.Helper()
	list := map[string][]byte{"small": smallImage(), "running": runningImage(), "empty": emptyImage()}
	for to := range 2 {
		for name, a := range zoosOf(to) {
			list[fmt.Sprint(name, " in ", to)] = checkImage(t, name, a)
			if a = flippedOf(a); a.Cycle {
				list[fmt.Sprint(name, " flipped from ", to)] = checkImage(t, name, a)
			}
		}
		list[fmt.Sprint("a cycle in ", to)] = checkImage(t, "a cycle", cycleSample(300, to).Arena)
	}
	return list
}

// With one bit changed, wherever it is, the sum is another one.
func TestImagesWithOneBitChanged(t *testing.T) {
	t.Parallel()
	for name, b := range rightImages(t) {
		c := slices.Clone(b)
		for i := range 8 * len(b) {
			c[i/8] ^= 1 << (i % 8)
			if a, ok := impl.Restore(c); ok || !sameArena(a, impl.Arena{}) {
				t.Fatalf("%s: restored with the bit %d changed", name, i)
			}
			c[i/8] = b[i/8]
		}
		if _, ok := impl.Restore(c); !ok {
			t.Errorf("%s: not restored as it was", name)
		}
	}
}

// Cut short, or longer, at either end.
func TestImagesOfAnotherLength(t *testing.T) {
	for name, b := range rightImages(t) {
		for _, n := range []int{1, 2, 4, 7, 8, 9, 15, 16, 24, 64, len(b)} {
			checkNoArena(t, fmt.Sprint(name, " without the last ", n), b[:len(b)-n])
			checkNoArena(t, fmt.Sprint(name, " without the first ", n), b[n:])
			checkNoArena(t, fmt.Sprint(name, " and nothings, ", n), append(slices.Clone(b), make([]byte, n)...))
			checkNoArena(t, fmt.Sprint(name, " behind nothings, ", n), append(make([]byte, n), b...))
		}
		checkNoArena(t, name+" twice", slices.Concat(b, b))
	}
}

// numbersIn are the numbers of an image, but the sum.
func numbersIn(b []byte) []uint64 {
	var list []uint64
	for i := 0; i+8 < len(b); i += 8 {
		n := uint64(0)
		for k := range 8 {
			n += uint64(b[i+k]) << (8 * k)
		}
		list = append(list, n)
	}
	return list
}

// As many numbers as there must be, no more and no less, also where the sum is right.
func TestImagesOfAnotherCount(t *testing.T) {
	for name, b := range rightImages(t) {
		list := numbersIn(b)
		if !slices.Equal(summed(list...), b) {
			t.Fatal(name, "is not read")
		}
		for n := range len(list) {
			checkNoArena(t, fmt.Sprint(name, ", ", n, " numbers"), summed(list[:n]...))
		}
		for _, more := range [][]uint64{{0}, {0, 0}, {1}, {0, 0, 0, 0}, {impl.KCell + 32, 0, 0}} {
			checkNoArena(t, fmt.Sprint(name, " and ", more), summed(slices.Concat(list, more)...))
			checkNoArena(t, fmt.Sprint(name, " behind ", more), summed(slices.Concat(more, list)...))
		}
		checkNoArena(t, name+" with its sum twice", summed(slices.Concat(list, numbersIn(append(b[len(b)-8:], 0)))...))
	}
}

func TestImagesThatAreNone(t *testing.T) {
	for n := range 200 {
		checkNoArena(t, fmt.Sprint(n, " bytes of nothing"), make([]byte, n))
		checkNoArena(t, fmt.Sprint(n, " bytes of 1"), slices.Repeat([]byte{1}, n))
	}
	checkNoArena(t, "no bytes", nil)
	for _, n := range []int{impl.MaxImage - 1, impl.MaxImage, impl.MaxImage + 1, impl.MaxImage + 7, impl.MaxImage + 8, 1 << 20} {
		checkNoArena(t, fmt.Sprint(n, " bytes"), make([]byte, n))
	}
	// A right image and words behind it up to MaxImage, and beyond.
	for name, b := range rightImages(t) {
		list := numbersIn(b)
		for _, n := range []int{impl.MaxImage/8 - 1, impl.MaxImage / 8} {
			checkNoArena(t, name, summed(append(slices.Clone(list), make([]uint64, n-len(list))...)...))
		}
	}
}

// The sum is right, and the arena is not.
func TestImagesOfArenasThatAreNotOk(t *testing.T) {
	count := map[byte]int{}
	for _, wrong := range wrongArenas() {
		a := wrong.Arena
		if a.Semi == 0 || a.Top > a.To*a.Semi+a.Semi || a.Cycle && a.Old > len(a.Words) {
			continue
		}
		if len(a.Words) != 2*a.Semi {
			continue // an image does not tell how many words there are
		}
		checkNoArena(t, wrong.name, summed(imageNumbers(a)...))
		count[wrong.name[6]]++
	}
	for point := byte('1'); point <= '5'; point++ {
		if count[point] == 0 {
			t.Errorf("no arena is wrong by the point %c", point)
		}
	}
}

// oddNumbers are those that are right as none of the first ones, but where they are the number itself.
func oddNumbers(n uint64) []uint64 {
	return []uint64{
		n + 1<<8, n + 1<<16, n + 1<<31, n + 1<<32, n + 1<<48, n | 1<<63, ^n, -n, n + 4001, n + 25,
		math.MaxInt64, math.MaxInt64 - 1, 1 << 63, 1<<63 + 1, math.MaxUint64, math.MaxUint64 - 1, 1 << 32, 1<<32 + 1,
	}
}

// Each of the first numbers, wrong by itself: above what an int holds, below 0, cut to what is right in fewer bits, and a little off.
func TestImagesWithAWrongNumber(t *testing.T) {
	names := []string{"Semi", "To", "Top", "Cycle", "Scan", "Old", "Copied", "Serial", "how many Roots"}
	for image, b := range rightImages(t) {
		for i, name := range names {
			list := numbersIn(b)
			was := list[i]
			for _, n := range append(oddNumbers(was), was-1, was+1, 0, 1, 2, 3, 255, 256, 257, 511, 512, 513, 4000, 4001, impl.MaxSerial, impl.MaxSerial+1) {
				list[i] = n
				what := fmt.Sprint(image, " with ", name, " ", n, " for ", was)
				_, ok := checkRestore(t, what, summed(list...))
				// A higher Serial is right as well; a half may be longer than it must.
				if ok && n != was && name != "Serial" && name != "Semi" && name != "Scan" {
					t.Errorf("%s: restored", what)
				}
				if n > math.MaxInt64 && ok {
					t.Errorf("%s: restored, though no int holds it", what)
				}
			}
		}
	}
}

// 1 or 0 for Cycle alone: not any other number that is odd, or cut to fewer bits, or not 0.
func TestImagesWithAWrongCycle(t *testing.T) {
	for name, b := range map[string][]byte{"small": smallImage(), "running": runningImage(), "empty": emptyImage()} {
		list := numbersIn(b)
		right := list[3]
		for _, n := range []uint64{0, 1, 2, 3, 5, 255, 256, 257, 1 << 16, 1<<32 + 1, 1 << 63, 1<<63 + 1, math.MaxUint64} {
			list[3] = n
			if _, ok := checkRestore(t, fmt.Sprint(name, " with Cycle ", n), summed(list...)); ok != (n == right) {
				t.Errorf("%s with Cycle %d: %v", name, n, ok)
			}
		}
	}
}

// A right arena of another half, Top, Old or count of Roots than the bytes have.
func TestImagesThatNameWhatIsNotThere(t *testing.T) {
	turns := map[string]func(list []uint64){
		"the other half, its Top":     func(list []uint64) { list[1], list[2] = 1, 264 },
		"a Top an object more":        func(list []uint64) { list[2] += 3 },
		"a Top an object less":        func(list []uint64) { list[2] -= 4 },
		"a Top at the half's end":     func(list []uint64) { list[2] = 256 },
		"a Top behind the half's end": func(list []uint64) { list[2] = 257 },
		"a Top of 0":                  func(list []uint64) { list[2] = 0 },
		"a Root less":                 func(list []uint64) { list[8]-- },
		"a Root more":                 func(list []uint64) { list[8]++ },
		"all Roots":                   func(list []uint64) { list[8] = 24 },
		"a Root too many":             func(list []uint64) { list[8] = 25 },
		"no Roots":                    func(list []uint64) { list[8] = 0 },
		"a cycle of nothing":          func(list []uint64) { list[3], list[4], list[5] = 1, list[2], 257-256*list[1] },
	}
	for name, turn := range turns {
		list := numbersIn(smallImage())
		turn(list)
		_, ok := checkRestore(t, name, summed(list...))
		// With a cycle of nothing at all in the other half it is an image: Old is that half's beginning, Scan is Top.
		want := name == "a cycle of nothing" || name == "the other half, its Top"
		if name == "the other half, its Top" {
			want = false // the references lead into the half that is not in use
		}
		if ok != want {
			t.Errorf("%s: %v", name, ok)
		}
	}
	running := map[string]func(list []uint64){
		"an Old an object less":        func(list []uint64) { list[5] -= 4 },
		"an Old at its beginning":      func(list []uint64) { list[5] = 1 },
		"an Old ahead of it":           func(list []uint64) { list[5] = 0 },
		"an Old at its end":            func(list []uint64) { list[5] = 256 },
		"an Old in the other half":     func(list []uint64) { list[5] = 264 },
		"an Old far off":               func(list []uint64) { list[5] = 1 << 40 },
		"Copied one less":              func(list []uint64) { list[6]-- },
		"a Scan within an object":      func(list []uint64) { list[4]++ },
		"a Scan behind what is copied": func(list []uint64) { list[4] = 261 },
		"no cycle":                     func(list []uint64) { list[3] = 0 },
		"no cycle, and its numbers 0":  func(list []uint64) { list[3], list[4], list[5], list[6] = 0, 0, 0, 0 },
	}
	for name, turn := range running {
		list := numbersIn(runningImage())
		turn(list)
		checkNoArena(t, name, summed(list...))
	}
}

// Roots that are no values, or lead nowhere.
func TestImagesWithWrongRoots(t *testing.T) {
	for name, b := range map[string][]byte{"small": smallImage(), "running": runningImage()} {
		for _, v := range wrongVals() {
			list := numbersIn(b)
			list[9], list[10] = uint64(v.Tag), uint64(v.N)
			checkNoArena(t, fmt.Sprint(name, " with the Root ", v), summed(list...))
		}
		for _, tag := range []uint64{1 << 32, 1<<32 + impl.TInt, 1<<63 + impl.TInt, 256 + impl.TInt, math.MaxUint64, impl.TBlk, 10} {
			list := numbersIn(b)
			list[9], list[10] = tag, 1
			checkNoArena(t, fmt.Sprint(name, " with a Root of the tag ", tag), summed(list...))
		}
		for _, at := range []uint64{0, 2, 5, 8, 255, 256, 300, 511, 512, 1<<32 + 1, 1<<63 + 1, math.MaxUint64} {
			list := numbersIn(b)
			list[9], list[10] = impl.TCell, at
			checkNoArena(t, fmt.Sprint(name, " with a box at ", at), summed(list...))
		}
	}
}

// Each bit changed, and the sum made anew: what is an image still is that of another arena.
func TestImagesWithOneBitChangedAndTheSum(t *testing.T) {
	t.Parallel()
	right, wrong := 0, 0
	turn := func(name string, list []uint64, bit int) {
		list[bit/64] ^= 1 << (bit % 64)
		if _, ok := checkRestore(t, fmt.Sprint(name, ", bit ", bit), summed(list...)); ok {
			right++
		} else {
			wrong++
		}
		list[bit/64] ^= 1 << (bit % 64)
	}
	r := rand.New(rand.NewSource(158))
	for name, b := range rightImages(t) {
		list := numbersIn(b)
		bits := 64 * len(list)
		for bit := range min(bits, 64*9) {
			turn(name, list, bit)
		}
		for range 200 {
			turn(name, list, r.Intn(bits))
		}
		if name == "small" || name == "running" {
			for bit := range bits {
				turn(name, list, bit)
			}
		}
	}
	if right < 300 || wrong < 3000 {
		t.Error("too few of either kind:", right, "right", wrong, "wrong")
	}
}

// Arenas that come of chance, right ones among them that no run of the program would leave behind.
func TestImagesOfTurnedSamples(t *testing.T) {
	t.Parallel()
	r := rand.New(rand.NewSource(159))
	right, wrong := 0, 0
	for range 4000 {
		s := stillSample(impl.MinSemi, r.Intn(2))
		if r.Intn(3) > 0 {
			s = cycleSample(impl.MinSemi, s.To)
		}
		for range 1 + r.Intn(2) {
			turnAtRandom(r, &s)
		}
		if modelOk(s.Arena) {
			checkImage(t, "a turned sample", s.Arena)
			checkKins(t, "a turned sample", s.Arena)
			right++
			continue
		}
		checkNoImage(t, "a turned sample", s.Arena)
		if s.Top <= len(s.Words) && s.Old <= len(s.Words) {
			checkNoArena(t, "a turned sample", summed(imageNumbers(s.Arena)...))
			wrong++
		}
	}
	if right < 500 || wrong < 500 {
		t.Error("too few of either kind:", right, "right", wrong, "wrong")
	}
}

// Numbers by chance, most of them small ones.
func TestImagesByChance(t *testing.T) {
	t.Parallel()
	r := rand.New(rand.NewSource(160))
	for range 3000 {
		list := numbersIn([][]byte{smallImage(), runningImage(), emptyImage()}[r.Intn(3)])
		for range 1 + r.Intn(3) {
			switch i := r.Intn(len(list)); r.Intn(4) {
			case 0:
				list[i] = uint64(r.Intn(600))
			case 1:
				list[i] += uint64(r.Intn(7) - 3)
			case 2:
				list[i] = list[r.Intn(len(list))]
			case 3:
				list = slices.Insert(list, i, list[i])
			}
		}
		checkRestore(t, "by chance", summed(list...))
		junk := make([]byte, r.Intn(300))
		r.Read(junk)
		checkNoArena(t, "junk", junk)
		for i := range list {
			list[i] = r.Uint64() >> r.Intn(64)
		}
		checkRestore(t, "numbers of any size", summed(list...))
	}
}
