package tests

import (
	"slices"
	"testing"

	"loop.example/g00101/impl"
)

// layer lays objects into an arena, one right behind the other.
type layer struct {
	words []uint64
	at    int
}

func (l *layer) lay(h impl.Head, words ...uint64) int {
	w, ok := impl.PackHead(h)
	if !ok {
		panic("the test lays a head that is none")
	}
	at := l.at
	l.words[at] = w
	body := l.words[at+1 : at+1+h.Size]
	clear(body)
	copy(body, words)
	l.at += h.Size + 1
	return at
}

func (l *layer) text(s string) int {
	words := []uint64{uint64(len(s))}
	for i := range len(s) {
		if i%8 == 0 {
			words = append(words, 0)
		}
		words[len(words)-1] += uint64(s[i]) << (8 * (i % 8))
	}
	return l.lay(impl.Head{Kind: impl.KStr, Size: len(words)}, words...)
}

func (l *layer) table(serial int, used int, slot impl.Val) int {
	return l.lay(impl.Head{Kind: impl.KTab, Size: 3, Serial: serial}, append([]uint64{uint64(used)}, pairs(slot)...)...)
}

// entry is one that is not empty, with its number in the block.
type entry struct {
	at    int
	key   impl.Val
	value impl.Val
}

func (l *layer) block(capacity int, entries ...entry) int {
	words := make([]uint64, 4*capacity)
	for _, e := range entries {
		copy(words[4*e.at:], pairs(e.key, e.value))
	}
	return l.lay(impl.Head{Kind: impl.KBlk, Size: len(words)}, words...)
}

func (l *layer) fun(serial int, proto uint64, cells ...impl.Val) int {
	return l.lay(impl.Head{Kind: impl.KFun, Size: 1 + 2*len(cells), Serial: serial}, append([]uint64{proto}, pairs(cells...)...)...)
}

func (l *layer) cell(v impl.Val) int {
	return l.lay(impl.Head{Kind: impl.KCell, Size: 2}, pairs(v)...)
}

func (l *layer) co(serial int, words [4]uint64, back impl.Val, stack ...impl.Val) int {
	all := append(words[:], pairs(back)...)
	return l.lay(impl.Head{Kind: impl.KCo, Size: 126, Serial: serial}, append(all, pairs(stack...)...)...)
}

// forward lays the word that leads to a copy, and what is left of the object behind it, which nobody looks at.
func (l *layer) forward(to int, size int) int {
	at := l.at
	l.words[at] = 1<<63 + uint64(to)
	for i := range size {
		l.words[at+1+i] = 0xDEAD
	}
	l.at += size + 1
	return at
}

func pairs(vals ...impl.Val) []uint64 {
	var words []uint64
	for _, v := range vals {
		words = append(words, uint64(v.Tag), uint64(v.N))
	}
	return words
}

func ref(tag int, at int) impl.Val { return impl.Val{Tag: tag, N: at} }
func num(n int) impl.Val           { return impl.Val{Tag: impl.TInt, N: n} }
func yes() impl.Val                { return impl.Val{Tag: impl.TBool, N: 1} }

// sample is a right arena, and where its objects stand, by name.
type sample struct {
	impl.Arena
	at map[string]int
}

// twin is the sample in memory of its own, to be turned into a wrong one.
func (s sample) twin() sample {
	s.Words = slices.Clone(s.Words)
	s.Roots = slices.Clone(s.Roots)
	return s
}

// put lays words over those of the object of that name, from the word at (the head is 0) on.
func (s sample) put(name string, at int, words ...uint64) {
	place, ok := s.at[name]
	if !ok {
		panic("the sample has no " + name)
	}
	copy(s.Words[place+at:], words)
}

func newArena(semi int, to int) impl.Arena {
	words := make([]uint64, 2*semi)
	for i := range words {
		words[i] = 0xF00D // what no object has is never looked at
	}
	return impl.Arena{Words: words, Semi: semi, To: to, Top: to*semi + 1, Serial: 1}
}

// stillSample has objects of all kinds in one half; no Cycle runs.
func stillSample(semi int, to int) sample {
	s := sample{newArena(semi, to), map[string]int{}}
	l := &layer{s.Words, to*semi + 1}
	s.at["empty"] = l.text("")
	s.at["eight"] = l.text("abcdefgh")
	s.at["nine"] = l.text("abcdefgh\xff")
	s.at["box"] = l.cell(num(-5))
	s.at["boxbox"] = l.cell(ref(impl.TCell, s.at["box"]))
	s.at["fun"] = l.fun(1, 255, ref(impl.TCell, s.at["boxbox"]), ref(impl.TCell, s.at["box"]))
	s.at["bare"] = l.fun(2, 0)
	s.at["block"] = l.block(4,
		entry{0, num(8), yes()},                           // 8 mod 4
		entry{1, ref(impl.TFun, s.at["fun"]), impl.Val{}}, // the serial 1; dead
		entry{2, num(4), num(1)},                          // 4 mod 4, behind two others
	)
	s.at["table"] = l.table(3, 3, ref(impl.TBlk, s.at["block"]))
	s.at["none"] = l.table(4, 0, impl.Val{})
	s.at["loose"] = l.block(4, entry{3, num(0), num(0)}, entry{2, num(0), ref(impl.TTab, s.at["table"])})
	s.at["co"] = l.co(5, [4]uint64{4, 3, 3, 4095}, impl.Val{}, num(0), num(0), ref(impl.TCell, s.at["box"]))
	s.Top, s.Serial = l.at, 6
	s.Roots = []impl.Val{{}, yes(), num(7), {Tag: impl.TLib, N: 20},
		ref(impl.TStr, s.at["nine"]), ref(impl.TTab, s.at["table"]), ref(impl.TFun, s.at["fun"]), ref(impl.TCo, s.at["co"]), ref(impl.TCell, s.at["boxbox"])}
	return s
}

// cycleSample has a Cycle that runs: "done .." is ahead of Scan, "copy .." at it and behind it, "old .." in the other half, where "old done" and "old copy .." lead to the copies.
func cycleSample(semi int, to int) sample {
	s := sample{newArena(semi, to), map[string]int{}}
	l := &layer{s.Words, to*semi + 1}
	o := &layer{s.Words, (1-to)*semi + 1}
	// The half in use begins with these, whose slots are put right below.
	s.at["done text"] = l.text("done")
	s.at["done box"] = l.cell(ref(impl.TStr, s.at["done text"]))
	s.at["copy block"] = l.block(4)
	s.at["copy table"] = l.table(1, 0, impl.Val{})
	s.at["copy box"] = l.cell(impl.Val{})
	s.at["new table"] = l.table(9, 0, impl.Val{})
	s.Top, s.Cycle, s.Scan, s.Serial = l.at, true, s.at["copy block"], 10

	s.at["old done"] = o.forward(s.at["done text"], 2)
	s.at["old text"] = o.text("old text")
	s.at["old copy block"] = o.forward(s.at["copy block"], 16)
	s.at["old copy table"] = o.forward(s.at["copy table"], 3)
	s.at["old copy box"] = o.forward(s.at["copy box"], 2)
	s.at["old box"] = o.cell(ref(impl.TCell, s.at["old copy box"]))
	s.at["old fun"] = o.fun(2, 7, ref(impl.TCell, s.at["old box"]), ref(impl.TCell, s.at["old copy box"]))
	s.at["old block"] = o.block(4,
		entry{0, ref(impl.TStr, s.at["old done"]), num(1)},      // the hash of "done" is 140056
		entry{1, num(4), ref(impl.TFun, s.at["old fun"])},       // 0 is taken
		entry{2, ref(impl.TTab, s.at["old copy table"]), yes()}, // the serial 1 is taken
	)
	s.at["old table"] = o.table(3, 0, ref(impl.TBlk, s.at["old copy block"]))
	s.at["old co"] = o.co(4, [4]uint64{}, impl.Val{})
	s.Old = o.at
	s.Copied = 3 + 17 + 4 + 3

	s.put("copy box", 1, pairs(ref(impl.TStr, s.at["old text"]))...)
	s.put("copy table", 1, append([]uint64{3}, pairs(ref(impl.TBlk, s.at["old block"]))...)...)
	s.put("old table", 1, 2)
	s.put("copy block", 1+4*1, pairs(yes(), ref(impl.TStr, s.at["old done"]))...)
	s.put("copy block", 1+4*2, pairs(ref(impl.TTab, s.at["new table"]), ref(impl.TCo, s.at["old co"]))...) // 9 mod 4 is taken
	s.Roots = []impl.Val{ref(impl.TCell, s.at["copy box"]), ref(impl.TTab, s.at["copy table"]), {}}
	return s
}

// samples are right arenas: each with either half in use, in the least words that hold it and in the most.
func samples() []sample {
	var list []sample
	for to := range 2 {
		for _, semi := range []int{impl.MinSemi, 300, impl.MaxSemi} {
			list = append(list, stillSample(semi, to), cycleSample(semi, to))
		}
	}
	return list
}

func sameArena(a impl.Arena, b impl.Arena) bool {
	return slices.Equal(a.Words, b.Words) && a.Semi == b.Semi && a.To == b.To && a.Top == b.Top && a.Cycle == b.Cycle &&
		a.Scan == b.Scan && a.Old == b.Old && a.Copied == b.Copied && a.Serial == b.Serial && slices.Equal(a.Roots, b.Roots)
}

// roomy is an arena with spare room behind its lists, filled with words of its own.
func roomy(a impl.Arena) impl.Arena {
	words := append(slices.Clone(a.Words), 71, 72, 73, 74)
	a.Words = words[:len(a.Words)]
	roots := append(slices.Clone(a.Roots), num(75), num(76), num(77))
	a.Roots = roots[:len(a.Roots)]
	return a
}

// whole is an arena with its lists as far as their room goes.
func whole(a impl.Arena) impl.Arena {
	a.Words = a.Words[:cap(a.Words)]
	a.Roots = a.Roots[:cap(a.Roots)]
	return a
}

// checkOwn tells whether an answer lies in memory of its own, by writing over all of it, and whether the argument is as it was.
func checkOwn(t *testing.T, out impl.Arena, in impl.Arena, was impl.Arena) {
	t.Helper()
	all := whole(out)
	for i := range all.Words {
		all.Words[i] = 0xBAD
	}
	for i := range all.Roots {
		all.Roots[i] = num(0xBAD)
	}
	if !sameArena(in, was) {
		t.Fatal("the argument was written into, or the answer shares its memory")
	}
}

// allOf has a copy of an arena with all of its spare room.
func allOf(a impl.Arena) impl.Arena {
	a = whole(a)
	a.Words = slices.Clone(a.Words)
	a.Roots = slices.Clone(a.Roots)
	return a
}

func sortedPlaces(s sample) []int {
	places := make([]int, 0, len(s.at))
	for _, at := range s.at {
		places = append(places, at)
	}
	slices.Sort(places)
	return places
}
