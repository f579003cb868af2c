package tests

import (
	"math"
	"slices"
	"testing"

	"loop.example/g00101/impl"
)

// rightSizes are the Sizes of each kind as the document lists them, not as the program reckons them.
func rightSizes() map[int][]int {
	sizes := map[int][]int{
		impl.KTab:  {3},
		impl.KBlk:  {16, 32, 64, 128, 256},
		impl.KCell: {2},
		impl.KCo:   {126},
	}
	for n := range impl.MaxText + 1 {
		size := 1 + n/8
		if n%8 != 0 {
			size++
		}
		if !slices.Contains(sizes[impl.KStr], size) {
			sizes[impl.KStr] = append(sizes[impl.KStr], size)
		}
	}
	for ups := range impl.MaxUps + 1 {
		sizes[impl.KFun] = append(sizes[impl.KFun], 1+2*ups)
	}
	return sizes
}

func kindWithSerial(kind int) bool {
	return kind == impl.KTab || kind == impl.KFun || kind == impl.KCo
}

func headIsRight(sizes map[int][]int, h impl.Head) bool {
	if !slices.Contains(sizes[h.Kind], h.Size) {
		return false
	}
	if kindWithSerial(h.Kind) {
		return 1 <= h.Serial && h.Serial <= impl.MaxSerial
	}
	return h.Serial == 0
}

func rightHeads() []impl.Head {
	var heads []impl.Head
	for kind, sizes := range rightSizes() {
		serials := []int{0}
		if kindWithSerial(kind) {
			serials = []int{1, 2, 77, 1 << 20, impl.MaxSerial - 1, impl.MaxSerial}
		}
		for _, size := range sizes {
			for _, serial := range serials {
				heads = append(heads, impl.Head{Kind: kind, Size: size, Serial: serial})
			}
		}
	}
	return heads
}

func TestWordConstants(t *testing.T) {
	got := []int{
		impl.KStr, impl.KTab, impl.KBlk, impl.KFun, impl.KCell, impl.KCo,
		impl.TNil, impl.TBool, impl.TInt, impl.TStr, impl.TTab, impl.TFun, impl.TCo, impl.TLib, impl.TBlk, impl.TCell,
		impl.MaxText, impl.MaxUps, impl.MaxBlk, impl.StackCap, impl.MaxSerial, impl.MaxLib,
	}
	want := []int{1, 2, 3, 4, 5, 6, 0, 1, 2, 3, 4, 5, 6, 7, 8, 9, 160, 12, 64, 60, 1000000000, 20}
	if !slices.Equal(got, want) {
		t.Errorf("constants %v, want %v", got, want)
	}
}

func TestHeadOfEachTextLength(t *testing.T) {
	for n := range impl.MaxText + 1 {
		h := impl.Head{Kind: impl.KStr, Size: 1 + int(math.Ceil(float64(n)/8))}
		if !impl.HeadOk(h) {
			t.Errorf("a text of %d bytes: %v refused", n, h)
		}
	}
	for _, size := range []int{-1, 0, 22} {
		if h := (impl.Head{Kind: impl.KStr, Size: size}); impl.HeadOk(h) {
			t.Errorf("%v taken", h)
		}
	}
}

func TestHeadEdges(t *testing.T) {
	cases := []struct {
		h    impl.Head
		want bool
	}{
		{impl.Head{Kind: impl.KBlk, Size: 15}, false},
		{impl.Head{Kind: impl.KBlk, Size: 16}, true},
		{impl.Head{Kind: impl.KBlk, Size: 32}, true},
		{impl.Head{Kind: impl.KBlk, Size: 64}, true},
		{impl.Head{Kind: impl.KBlk, Size: 128}, true},
		{impl.Head{Kind: impl.KBlk, Size: 256}, true},
		{impl.Head{Kind: impl.KBlk, Size: 8}, false},
		{impl.Head{Kind: impl.KBlk, Size: 48}, false},
		{impl.Head{Kind: impl.KBlk, Size: 257}, false},
		{impl.Head{Kind: impl.KBlk, Size: 512}, false},
		{impl.Head{Kind: impl.KBlk, Size: math.MinInt}, false},
		{impl.Head{Kind: impl.KBlk, Size: 16, Serial: 1}, false},
		{impl.Head{Kind: impl.KFun, Size: -1, Serial: 1}, false},
		{impl.Head{Kind: impl.KFun, Size: 0, Serial: 1}, false},
		{impl.Head{Kind: impl.KFun, Size: 1, Serial: 1}, true},
		{impl.Head{Kind: impl.KFun, Size: 2, Serial: 1}, false},
		{impl.Head{Kind: impl.KFun, Size: 25, Serial: 1}, true},
		{impl.Head{Kind: impl.KFun, Size: 26, Serial: 1}, false},
		{impl.Head{Kind: impl.KFun, Size: 27, Serial: 1}, false},
		{impl.Head{Kind: impl.KTab, Size: 3, Serial: 0}, false},
		{impl.Head{Kind: impl.KTab, Size: 3, Serial: 1}, true},
		{impl.Head{Kind: impl.KTab, Size: 3, Serial: impl.MaxSerial}, true},
		{impl.Head{Kind: impl.KTab, Size: 3, Serial: impl.MaxSerial + 1}, false},
		{impl.Head{Kind: impl.KTab, Size: 3, Serial: -1}, false},
		{impl.Head{Kind: impl.KTab, Size: 2, Serial: 1}, false},
		{impl.Head{Kind: impl.KTab, Size: 4, Serial: 1}, false},
		{impl.Head{Kind: impl.KCell, Size: 2}, true},
		{impl.Head{Kind: impl.KCell, Size: 1}, false},
		{impl.Head{Kind: impl.KCell, Size: 3}, false},
		{impl.Head{Kind: impl.KCell, Size: 2, Serial: 1}, false},
		{impl.Head{Kind: impl.KCo, Size: 126, Serial: 1}, true},
		{impl.Head{Kind: impl.KCo, Size: 125, Serial: 1}, false},
		{impl.Head{Kind: impl.KCo, Size: 127, Serial: 1}, false},
		{impl.Head{Kind: impl.KCo, Size: 126}, false},
		{impl.Head{Kind: impl.KStr, Size: 1, Serial: 1}, false},
		{impl.Head{}, false},
		{impl.Head{Kind: 0, Size: 3, Serial: 1}, false},
		{impl.Head{Kind: 7, Size: 2}, false},
		{impl.Head{Kind: impl.KTab + 16, Size: 3, Serial: 1}, false},
		{impl.Head{Kind: -1, Size: 2}, false},
	}
	for _, c := range cases {
		if got := impl.HeadOk(c.h); got != c.want {
			t.Errorf("HeadOk(%v) is %v", c.h, got)
		}
	}
}

// checkHead holds HeadOk, PackHead and ReadHead of one head against the document's words.
func checkHead(t *testing.T, sizes map[int][]int, h impl.Head) {
	t.Helper()
	right := headIsRight(sizes, h)
	if got := impl.HeadOk(h); got != right {
		t.Fatalf("HeadOk(%v) is %v", h, got)
	}
	w, ok := impl.PackHead(h)
	if !right {
		if ok || w != 0 {
			t.Fatalf("PackHead(%v) is %d, %v", h, w, ok)
		}
		return
	}
	want := uint64(h.Kind) + uint64(h.Size)*16 + uint64(h.Serial)*1048576
	if !ok || w != want {
		t.Fatalf("PackHead(%v) is %d, %v, want %d", h, w, ok, want)
	}
	if back, ok := impl.ReadHead(w); !ok || back != h {
		t.Fatalf("ReadHead of %v's word is %v, %v", h, back, ok)
	}
}

func TestHeadsOfAllKindsAndSizes(t *testing.T) {
	sizes := rightSizes()
	serials := []int{math.MinInt, -1, 0, 1, 2, impl.MaxSerial - 1, impl.MaxSerial, impl.MaxSerial + 1, 1 << 44, math.MaxInt}
	for kind := -2; kind <= 24; kind++ {
		for size := -2; size <= 600; size++ {
			for _, serial := range serials {
				checkHead(t, sizes, impl.Head{Kind: kind, Size: size, Serial: serial})
			}
		}
		for _, size := range []int{math.MinInt, math.MinInt + 1, 65536 + 3, 1 << 32, math.MaxInt} {
			for _, serial := range serials {
				checkHead(t, sizes, impl.Head{Kind: kind, Size: size, Serial: serial})
			}
		}
	}
	for _, kind := range []int{math.MinInt, math.MaxInt, 1<<32 + impl.KTab} {
		checkHead(t, sizes, impl.Head{Kind: kind, Size: 3, Serial: 1})
	}
}

func TestNoTwoHeadsHaveOneWord(t *testing.T) {
	of := map[uint64]impl.Head{}
	for _, h := range rightHeads() {
		w, ok := impl.PackHead(h)
		if other, seen := of[w]; seen || !ok {
			t.Fatalf("%v and %v both have %d", other, h, w)
		}
		of[w] = h
	}
}

// A word one bit beside a head's is that of another right head, or of none.
func TestWordsBesideHeads(t *testing.T) {
	sizes := rightSizes()
	for _, h := range rightHeads() {
		w, _ := impl.PackHead(h)
		for bit := range 64 {
			x := w ^ 1<<bit
			want := impl.Head{Kind: int(x % 16), Size: int(x / 16 % 65536), Serial: int(x / 1048576)}
			right := headIsRight(sizes, want)
			if !right {
				want = impl.Head{}
			}
			if got, ok := impl.ReadHead(x); ok != right || got != want {
				t.Fatalf("ReadHead(%#x) is %v, %v, want %v, %v", x, got, ok, want, right)
			}
		}
	}
}

func TestWordsThatAreNoHeads(t *testing.T) {
	tab := uint64(impl.KTab + 3*16)
	words := []uint64{
		0, 1, 7, 15, tab,
		tab + (impl.MaxSerial+1)<<20,
		tab + 1<<20 + 1<<50,
		tab + 1<<20 + 1<<63,
		1 << 63, 1<<63 | 77, math.MaxUint64, math.MaxInt64,
		impl.KCell + 2*16 + 1<<20,
		impl.KStr + 22*16,
	}
	for _, w := range words {
		if h, ok := impl.ReadHead(w); ok || h != (impl.Head{}) {
			t.Errorf("ReadHead(%#x) is %v, %v", w, h, ok)
		}
	}
}

func TestForwarded(t *testing.T) {
	const high = uint64(1) << 63
	cases := []struct {
		w    uint64
		want int
		ok   bool
	}{
		{high, 0, true},
		{high | 1, 1, true},
		{high | 77, 77, true},
		{high | (1<<31 - 1), 1<<31 - 1, true},
		{high | 1<<31, 0, false},
		{high | (1<<31 + 1), 0, false},
		{high | 1<<32, 0, false},
		{high | 1<<62, 0, false},
		{math.MaxUint64, 0, false},
		{0, 0, false},
		{77, 0, false},
		{1<<31 - 1, 0, false},
		{1<<62 | 77, 0, false},
		{high - 1, 0, false},
	}
	for _, c := range cases {
		if got, ok := impl.Forwarded(c.w); got != c.want || ok != c.ok {
			t.Errorf("Forwarded(%#x) is %d, %v", c.w, got, ok)
		}
	}
}

// A head's word never leads anywhere, and a word that leads somewhere is no head's.
func TestHeadsAreNotForwarded(t *testing.T) {
	for _, h := range rightHeads() {
		w, _ := impl.PackHead(h)
		if at, ok := impl.Forwarded(w); ok || at != 0 {
			t.Errorf("%v's word leads to %d", h, at)
		}
	}
	for at := uint64(0); at < 1<<31; at += 99991 {
		if h, ok := impl.ReadHead(1<<63 | at); ok {
			t.Errorf("a word that leads to %d is read as %v", at, h)
		}
	}
}
