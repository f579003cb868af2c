package impl

const (
	KStr = iota + 1
	KTab
	KBlk
	KFun
	KCell
	KCo
)

const MaxText = 160
const MaxUps = 12
const MaxBlk = 64
const StackCap = 60
const MaxSerial = 1000000000

const (
	TNil = iota
	TBool
	TInt
	TStr
	TTab
	TFun
	TCo
	TLib
	TBlk
	TCell
)

const MaxLib = 20

// A head's word, from its lowest bit on: the Kind, the Size, the Serial.
const (
	kindBits = 4
	kindMask = 0xF
	sizeBits = 16
	sizeMask = 0xFFFF
)

// A word that leads to a copy has forwardBit, which no head's word has.
const (
	forwardBit = 0x8000000000000000
	maxForward = 0x7FFFFFFF
)

const (
	minBlk     = 4 // entries of the least block
	entryWords = 4 // a key and a value, two words each
	coSize     = 6 + 2*StackCap
)

// Head is what the first word of an object says.
type Head struct {
	Kind   int
	Size   int
	Serial int
}

// Val is a value.
type Val struct {
	Tag int
	N   int
}

func HeadOk(h Head) bool {
	if !sizeOk(h.Kind, h.Size) {
		return false
	}
	if hasSerial(h.Kind) {
		return h.Serial >= 1 && h.Serial <= MaxSerial
	}
	return h.Serial == 0
}

// Tables, functions and coroutines are compared by birth numbers, since their places change.
func hasSerial(kind int) bool {
	return kind == KTab || kind == KFun || kind == KCo
}

func sizeOk(kind int, size int) bool {
	switch kind {
	case KStr:
		return size >= textSize(0) && size <= textSize(MaxText)
	case KTab:
		return size == 3
	case KBlk:
		return blockSizeOk(size)
	case KFun:
		return size&1 == 1 && size >= 1 && size <= 1+2*MaxUps
	case KCell:
		return size == 2
	case KCo:
		return size == coSize
	}
	return false
}

func textSize(n int) int {
	return 1 + (n+7)>>3
}

// blockSizeOk relies on the sizes of blocks being just the powers of two between the least and the greatest one.
func blockSizeOk(size int) bool {
	return size >= entryWords*minBlk && size <= entryWords*MaxBlk && size&(size-1) == 0
}

func PackHead(h Head) (uint64, bool) {
	if !HeadOk(h) {
		return 0, false
	}
	w := uint64(h.Serial)
	w <<= sizeBits
	w |= uint64(h.Size)
	w <<= kindBits
	w |= uint64(h.Kind)
	return w, true
}

func ReadHead(w uint64) (Head, bool) {
	var h Head
	h.Kind = int(w & kindMask)
	w >>= kindBits
	h.Size = int(w & sizeMask)
	w >>= sizeBits
	// All that is left is the Serial, unmasked: a word with bits too high is no head's.
	h.Serial = int(w)
	if !HeadOk(h) {
		return Head{}, false
	}
	return h, true
}

func Forwarded(w uint64) (int, bool) {
	if w&forwardBit == 0 {
		return 0, false
	}
	w &^= forwardBit
	if w > maxForward {
		return 0, false
	}
	return int(w), true
}

func ValOk(v Val) bool {
	switch v.Tag {
	case TNil:
		return v.N == 0
	case TBool:
		return v.N == 0 || v.N == 1
	case TInt:
		return true
	case TLib:
		return v.N >= 1 && v.N <= MaxLib
	}
	return IsRef(v) && v.N > 0
}

func IsRef(v Val) bool {
	switch v.Tag {
	case TStr, TTab, TFun, TCo, TBlk, TCell:
		return true
	}
	return false
}

func PutVal(words []uint64, at int, v Val) ([]uint64, bool) {
	out := copyWords(words)
	if !hasPair(words, at) || !ValOk(v) {
		return out, false
	}
	layVal(out, at, v)
	return out, true
}

func layVal(words []uint64, at int, v Val) {
	words[at] = uint64(v.Tag)
	words[at+1] = uint64(v.N)
}

func GetVal(words []uint64, at int) (Val, bool) {
	if !hasPair(words, at) {
		return Val{}, false
	}
	// Both words are taken whole: cut to fewer bits, some that are no value's would look like one.
	v := Val{Tag: int(words[at]), N: int(words[at+1])}
	if !ValOk(v) {
		return Val{}, false
	}
	return v, true
}

// hasPair asks for at and at + 1 without reckoning at + 1, which may wrap round.
func hasPair(words []uint64, at int) bool {
	return at >= 0 && at < len(words)-1
}

// copyWords keeps answers from sharing memory with what was handed in.
func copyWords(words []uint64) []uint64 {
	out := make([]uint64, len(words))
	copy(out, words)
	return out
}
