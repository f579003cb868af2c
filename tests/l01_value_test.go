package tests

import (
	"math"
	"slices"
	"testing"

	"loop.example/g00101/impl"
)

func refTags() []int {
	return []int{impl.TStr, impl.TTab, impl.TFun, impl.TCo, impl.TBlk, impl.TCell}
}

func rightVals() []impl.Val {
	vals := []impl.Val{
		{Tag: impl.TNil},
		{Tag: impl.TBool}, {Tag: impl.TBool, N: 1},
		{Tag: impl.TLib, N: 1}, {Tag: impl.TLib, N: 11}, {Tag: impl.TLib, N: impl.MaxLib},
	}
	for _, n := range []int{math.MinInt, math.MinInt + 1, -1 << 32, -2, -1, 0, 1, 2, 1 << 32, math.MaxInt - 1, math.MaxInt} {
		vals = append(vals, impl.Val{Tag: impl.TInt, N: n})
	}
	for _, tag := range refTags() {
		for _, n := range []int{1, 2, 7999, 1 << 40, math.MaxInt} {
			vals = append(vals, impl.Val{Tag: tag, N: n})
		}
	}
	return vals
}

func wrongVals() []impl.Val {
	vals := []impl.Val{
		{Tag: impl.TNil, N: 1}, {Tag: impl.TNil, N: -1}, {Tag: impl.TNil, N: math.MinInt}, {Tag: impl.TNil, N: math.MaxInt}, {Tag: impl.TNil, N: 1 << 32},
		{Tag: impl.TBool, N: 2}, {Tag: impl.TBool, N: -1}, {Tag: impl.TBool, N: 1 << 32}, {Tag: impl.TBool, N: 1<<32 + 1}, {Tag: impl.TBool, N: math.MinInt},
		{Tag: impl.TLib}, {Tag: impl.TLib, N: impl.MaxLib + 1}, {Tag: impl.TLib, N: -1}, {Tag: impl.TLib, N: 1<<32 + 1}, {Tag: impl.TLib, N: math.MaxInt},
	}
	for _, tag := range refTags() {
		for _, n := range []int{0, -1, -7999, math.MinInt} {
			vals = append(vals, impl.Val{Tag: tag, N: n})
		}
	}
	for _, tag := range wrongTags() {
		for _, n := range []int{0, 1, 5} {
			vals = append(vals, impl.Val{Tag: tag, N: n})
		}
	}
	return vals
}

// wrongTags has also those that cut to 8, 16 or 32 bits would be right ones.
func wrongTags() []int {
	tags := []int{-1, -2, 10, 11, math.MinInt, math.MaxInt}
	for tag := impl.TNil; tag <= impl.TCell; tag++ {
		tags = append(tags, tag+1<<8, tag+1<<16, tag+1<<32, tag+math.MinInt)
	}
	return tags
}

func TestValOk(t *testing.T) {
	for _, v := range rightVals() {
		if !impl.ValOk(v) {
			t.Errorf("%v refused", v)
		}
	}
	for _, v := range wrongVals() {
		if impl.ValOk(v) {
			t.Errorf("%v taken", v)
		}
	}
}

// IsRef asks for the Tag alone, whatever N is.
func TestIsRef(t *testing.T) {
	for _, n := range []int{math.MinInt, -1, 0, 1, 5, math.MaxInt} {
		for _, tag := range refTags() {
			if v := (impl.Val{Tag: tag, N: n}); !impl.IsRef(v) {
				t.Errorf("%v is no reference", v)
			}
		}
		for _, tag := range append(wrongTags(), impl.TNil, impl.TBool, impl.TInt, impl.TLib) {
			if v := (impl.Val{Tag: tag, N: n}); impl.IsRef(v) {
				t.Errorf("%v is a reference", v)
			}
		}
	}
}

// spared hands out words with spare room behind them, and all of that memory.
func spared() (words []uint64, all []uint64) {
	all = make([]uint64, 12)
	for i := range all {
		all[i] = uint64(100 + i)
	}
	return all[:7], all
}

func untouched(t *testing.T, all []uint64) {
	t.Helper()
	if _, want := spared(); !slices.Equal(all, want) {
		t.Errorf("the argument was written into: %v", all)
	}
}

// isNew tells whether an answer of PutVal lies in memory of its own, by writing over all of it.
func isNew(t *testing.T, out []uint64, all []uint64) {
	t.Helper()
	for i := range out[:cap(out)] {
		out[:cap(out)][i] = math.MaxUint64
	}
	untouched(t, all)
}

func TestWhatIsPutIsGot(t *testing.T) {
	for _, v := range rightVals() {
		for at := range 6 {
			words, all := spared()
			want := slices.Clone(words)
			want[at], want[at+1] = uint64(v.Tag), uint64(v.N)
			out, ok := impl.PutVal(words, at, v)
			if !ok || !slices.Equal(out, want) {
				t.Errorf("PutVal of %v at %d is %v, %v", v, at, out, ok)
				continue
			}
			if got, ok := impl.GetVal(out, at); !ok || got != v {
				t.Errorf("%v put at %d is got as %v, %v", v, at, got, ok)
			}
			untouched(t, all)
			isNew(t, out, all)
		}
	}
}

func TestPutValInTwoWords(t *testing.T) {
	out, ok := impl.PutVal([]uint64{9, 9}, 0, impl.Val{Tag: impl.TInt, N: math.MinInt})
	if !ok || !slices.Equal(out, []uint64{2, 1 << 63}) {
		t.Errorf("put %v, %v", out, ok)
	}
	if v, ok := impl.GetVal(out, 0); !ok || v != (impl.Val{Tag: impl.TInt, N: math.MinInt}) {
		t.Errorf("got %v, %v", v, ok)
	}
}

func wrongPlaces() []int {
	return []int{math.MinInt, math.MinInt + 1, -2, -1, 6, 7, 8, 11, 12, 1 << 32, math.MaxInt - 1, math.MaxInt}
}

func handedBack(t *testing.T, at int, v impl.Val) {
	t.Helper()
	words, all := spared()
	out, ok := impl.PutVal(words, at, v)
	if ok || !slices.Equal(out, all[:7]) {
		t.Errorf("PutVal of %v at %d is %v, %v", v, at, out, ok)
	}
	untouched(t, all)
	isNew(t, out, all)
}

func TestPutValRefuses(t *testing.T) {
	for _, at := range wrongPlaces() {
		handedBack(t, at, impl.Val{Tag: impl.TInt, N: 5})
		handedBack(t, at, impl.Val{Tag: 10})
	}
	for _, v := range wrongVals() {
		for at := range 7 {
			handedBack(t, at, v)
		}
	}
}

func TestGetValRefusesPlaces(t *testing.T) {
	words := make([]uint64, 7, 12)
	for _, at := range wrongPlaces() {
		if v, ok := impl.GetVal(words, at); ok || v != (impl.Val{}) {
			t.Errorf("GetVal at %d is %v, %v", at, v, ok)
		}
	}
}

func TestFewerThanTwoWords(t *testing.T) {
	for _, words := range [][]uint64{nil, {}, {0}, make([]uint64, 0, 4), make([]uint64, 1, 4)} {
		for _, at := range []int{math.MinInt, -1, 0, 1, math.MaxInt} {
			if out, ok := impl.PutVal(words, at, impl.Val{}); ok || !slices.Equal(out, words) {
				t.Errorf("PutVal into %v at %d is %v, %v", words, at, out, ok)
			}
			if v, ok := impl.GetVal(words, at); ok || v != (impl.Val{}) {
				t.Errorf("GetVal of %v at %d is %v, %v", words, at, v, ok)
			}
		}
	}
}

// The words of values that are none: what is wrong is told by all 64 bits of both.
func TestWordsThatAreNoValues(t *testing.T) {
	for _, v := range wrongVals() {
		words := []uint64{7, uint64(v.Tag), uint64(v.N), 7}
		if got, ok := impl.GetVal(words, 1); ok || got != (impl.Val{}) {
			t.Errorf("%v is got from words as %v, %v", v, got, ok)
		}
	}
	pairs := [][]uint64{
		{math.MaxUint64, 0}, {math.MaxUint64, math.MaxUint64},
		{1<<63 | impl.TInt, 5}, {1<<32 | impl.TInt, 5}, {impl.TNil, 1 << 63},
		{impl.TBool, 1 << 63}, {impl.TBool, math.MaxUint64}, {impl.TLib, 1<<63 | 1},
		{impl.TTab, 1 << 63}, {impl.TTab, 1<<63 | 5}, {impl.TCell, math.MaxUint64}, {10, 1},
	}
	for _, words := range pairs {
		if got, ok := impl.GetVal(words, 0); ok || got != (impl.Val{}) {
			t.Errorf("GetVal of %#x is %v, %v", words, got, ok)
		}
	}
}

func TestWordsThatAreValues(t *testing.T) {
	cases := []struct {
		words []uint64
		want  impl.Val
	}{
		{[]uint64{0, 0}, impl.Val{}},
		{[]uint64{1, 1}, impl.Val{Tag: impl.TBool, N: 1}},
		{[]uint64{2, math.MaxUint64}, impl.Val{Tag: impl.TInt, N: -1}},
		{[]uint64{2, 1 << 63}, impl.Val{Tag: impl.TInt, N: math.MinInt}},
		{[]uint64{4, math.MaxInt64}, impl.Val{Tag: impl.TTab, N: math.MaxInt}},
		{[]uint64{7, 20}, impl.Val{Tag: impl.TLib, N: 20}},
	}
	for _, c := range cases {
		want := slices.Clone(c.words)
		if got, ok := impl.GetVal(c.words, 0); !ok || got != c.want {
			t.Errorf("GetVal of %v is %v, %v", c.words, got, ok)
		}
		if !slices.Equal(c.words, want) {
			t.Errorf("GetVal wrote %v into %v", c.words, want)
		}
	}
}
