package tests

import (
	"math"
	"strings"
	"testing"

	"loop.example/g00101/impl"
)

// turn is a change of a sample, by what it is.
type turn struct {
	name string
	do   func(s *sample)
}

func packed(h impl.Head) uint64 {
	w, ok := impl.PackHead(h)
	if !ok {
		panic("the test packs a head that is none")
	}
	return w
}

// checkRefused: an arena that is none is refused by all functions of chapters 2 to 7 and 15, and handed back where the document says so.
func checkRefused(t *testing.T, name string, a impl.Arena) {
	t.Helper()
	in := roomy(a)
	was := allOf(in)
	if impl.ArenaOk(in) {
		t.Errorf("%s: ArenaOk", name)
	}
	if list := impl.Objects(in); len(list) != 0 {
		t.Errorf("%s: objects %v", name, list)
	}
	for _, at := range []int{1, a.Semi + 1, a.Top, a.Top - 3} {
		if h, ok := impl.HeadAt(in, at); ok || h != (impl.Head{}) {
			t.Errorf("%s: the head at %d is %v", name, at, h)
		}
	}
	if n := impl.Free(in); n != 0 {
		t.Errorf("%s: %d free", name, n)
	}
	out, ok := impl.SetRoot(in, 0, num(1))
	if ok || !sameArena(out, a) {
		t.Errorf("%s: SetRoot is %v", name, ok)
	}
	checkOwn(t, out, whole(in), was)
	out, ok = impl.MoveRoot(in, 0, 0)
	if ok || !sameArena(out, a) {
		t.Errorf("%s: MoveRoot is %v", name, ok)
	}
	checkOwn(t, out, whole(in), was)
	checkNotCopied(t, name, a)
	checkShut(t, name, a)
	checkNoTexts(t, name, a)
	checkNoTables(t, name, a)
	checkNoShape(t, name, a)
	checkNoImage(t, name, a)
}

// checkTurns makes each change in a sample with either half in use.
func checkTurns(t *testing.T, of func(semi int, to int) sample, right bool, turns []turn) {
	t.Helper()
	for to := range 2 {
		for _, turn := range turns {
			s := of(300, to)
			turn.do(&s)
			if modelOk(s.Arena) != right {
				t.Errorf("half %d: %s: the model does not say %v", to, turn.name, right)
			}
			if right && !impl.ArenaOk(s.Arena) {
				t.Errorf("half %d: %s: refused", to, turn.name)
			}
			if !right {
				checkRefused(t, turn.name, s.Arena)
			}
		}
	}
}

func measureTurns() []turn {
	return []turn{
		{"no words", func(s *sample) { s.Words = nil }},
		{"a word less", func(s *sample) { s.Words = s.Words[:len(s.Words)-1] }},
		{"a word more", func(s *sample) { s.Words = append(s.Words, 0) }},
		{"Semi one less", func(s *sample) { s.Semi-- }},
		{"Semi one more", func(s *sample) { s.Semi++ }},
		{"Semi 0", func(s *sample) { s.Semi = 0 }},
		{"Semi below 0", func(s *sample) { s.Semi = -300 }},
		{"Semi that wraps round", func(s *sample) { s.Semi = math.MinInt + 300 }},
		{"To below 0", func(s *sample) { s.To = -1 }},
		{"To 2", func(s *sample) { s.To = 2 }},
		{"To far off", func(s *sample) { s.To = math.MaxInt }},
		{"the other half", func(s *sample) { s.To = 1 - s.To }},
		{"Top below 0", func(s *sample) { s.Top = -s.Top }},
		{"Top in the other half", func(s *sample) { s.Top = s.Top + s.Semi - 2*s.To*s.Semi }},
		{"Top an object less, at its second word", func(s *sample) { s.Top-- }},
		{"Top one more", func(s *sample) { s.Top++ }},
		{"Serial 0", func(s *sample) { s.Serial = 0 }},
		{"Serial below 0", func(s *sample) { s.Serial = -1 }},
		{"Serial past MaxSerial", func(s *sample) { s.Serial = impl.MaxSerial + 1 }},
		{"Serial far off", func(s *sample) { s.Serial = math.MaxInt }},
		{"Serial of the newest object", func(s *sample) { s.Serial-- }},
		{"too many Roots", func(s *sample) { s.Roots = make([]impl.Val, impl.MaxRoots+1) }},
	}
}

func TestWrongMeasures(t *testing.T) {
	checkTurns(t, stillSample, false, measureTurns())
	checkTurns(t, cycleSample, false, measureTurns())
	for _, semi := range []int{impl.MinSemi - 1, impl.MaxSemi + 1} {
		for to := range 2 {
			checkRefused(t, "Semi past its limit", newArena(semi, to))
		}
	}
	empty := newArena(impl.MinSemi, 0)
	for _, serial := range []int{math.MinInt, -1, 0, impl.MaxSerial + 1} {
		empty.Serial = serial
		checkRefused(t, "no objects and a wrong Serial", empty)
	}
	checkRefused(t, "nothing", impl.Arena{})
	checkRefused(t, "nothing but a Root", impl.Arena{Roots: make([]impl.Val, 1), Serial: 1})
}

func TestRightMeasures(t *testing.T) {
	turns := []turn{
		{"MaxRoots", func(s *sample) { s.Roots = make([]impl.Val, impl.MaxRoots) }},
		{"no Roots", func(s *sample) { s.Roots = nil }},
		{"MaxSerial", func(s *sample) { s.Serial = impl.MaxSerial }},
	}
	checkTurns(t, stillSample, true, turns)
	checkTurns(t, cycleSample, true, turns)
}

func TestWrongTiles(t *testing.T) {
	checkTurns(t, stillSample, false, []turn{
		{"no head", func(s *sample) { s.put("box", 0, 0) }},
		{"a value for a head", func(s *sample) { s.put("box", 0, impl.TInt) }},
		{"a head with a wrong size", func(s *sample) { s.put("box", 0, impl.KCell+16*3) }},
		{"a forwarded word", func(s *sample) { s.put("box", 0, 1<<63+uint64(s.at["boxbox"])) }},
		{"a head that is too long", func(s *sample) { s.put("eight", 0, packed(impl.Head{Kind: impl.KStr, Size: 4})) }},
		{"a head that is too short", func(s *sample) { s.put("nine", 0, packed(impl.Head{Kind: impl.KStr, Size: 2})) }},
		{"a last object that goes past Top", func(s *sample) {
			s.Top = s.at["co"] + 3
			s.put("co", 0, packed(impl.Head{Kind: impl.KTab, Size: 3, Serial: 5}))
		}},
		{"two tables of one serial", func(s *sample) { s.put("none", 0, packed(impl.Head{Kind: impl.KTab, Size: 3, Serial: 3})) }},
		{"a table and a function of one serial", func(s *sample) { s.put("none", 0, packed(impl.Head{Kind: impl.KTab, Size: 3, Serial: 2})) }},
		{"the serial that comes next", func(s *sample) { s.put("none", 0, packed(impl.Head{Kind: impl.KTab, Size: 3, Serial: 6})) }},
		{"MaxSerial", func(s *sample) {
			s.Serial = impl.MaxSerial
			s.put("none", 0, packed(impl.Head{Kind: impl.KTab, Size: 3, Serial: impl.MaxSerial}))
		}},
		{"Scan without a Cycle", func(s *sample) { s.Scan = s.at["box"] }},
		{"Scan at Top without a Cycle", func(s *sample) { s.Scan = s.Top }},
		{"Old without a Cycle", func(s *sample) { s.Old = s.Semi - s.To*s.Semi + 1 }},
		{"Copied without a Cycle", func(s *sample) { s.Copied = 1 }},
	})
	checkTurns(t, stillSample, true, []turn{
		{"one less than MaxSerial", func(s *sample) {
			s.Serial = impl.MaxSerial
			s.put("none", 0, packed(impl.Head{Kind: impl.KTab, Size: 3, Serial: impl.MaxSerial - 1}))
		}},
	})
}

// What ends right at the end of its half is right; what goes one word past it is not, wherever Top is.
func TestObjectAtTheEndOfTheHalf(t *testing.T) {
	for to := range 2 {
		a := newArena(impl.MinSemi, to)
		end := a.Top - 1 + impl.MinSemi
		l := &layer{append(a.Words, 0), a.Top}
		for range 84 {
			l.text("filled") // 3 words each: 3 are left
		}
		last := *l
		last.text("last")
		a.Words, a.Top, a.Serial = l.words[:2*impl.MinSemi], end, 2
		if last.at != end || !impl.ArenaOk(a) {
			t.Errorf("half %d: an object up to the end is refused", to)
		}
		l.table(1, 0, impl.Val{}) // 4 words
		for _, top := range []int{end, end + 1} {
			a.Top = top
			checkRefused(t, "an object past the end", a)
		}
	}
}

func TestWrongTilesOfTheOtherHalf(t *testing.T) {
	lead := func(name string, to int) func(s *sample) {
		return func(s *sample) { s.put(name, 0, 1<<63+uint64(to)) }
	}
	checkTurns(t, cycleSample, false, []turn{
		{"no head", func(s *sample) { s.put("old text", 0, 0) }},
		{"a head that is too long", func(s *sample) { s.put("old text", 0, packed(impl.Head{Kind: impl.KStr, Size: 3})) }},
		{"a serial of the half in use", func(s *sample) { s.put("old fun", 0, packed(impl.Head{Kind: impl.KFun, Size: 5, Serial: 9})) }},
		{"a serial of a copied object", func(s *sample) { s.put("old fun", 0, packed(impl.Head{Kind: impl.KFun, Size: 5, Serial: 1})) }},
		{"two of one serial there", func(s *sample) { s.put("old fun", 0, packed(impl.Head{Kind: impl.KFun, Size: 5, Serial: 3})) }},
		{"the serial that comes next", func(s *sample) { s.put("old fun", 0, packed(impl.Head{Kind: impl.KFun, Size: 5, Serial: 10})) }},
		{"two that lead to one object", func(s *sample) {
			s.put("old copy box", 0, 1<<63+uint64(s.at["done text"]))
		}},
		{"two that lead to one object, its size told as copied once", func(s *sample) {
			s.put("old text", 0, 1<<63+uint64(s.at["done text"]))
		}},
		{"two that lead to one object, its size told as copied twice", func(s *sample) {
			s.put("old text", 0, 1<<63+uint64(s.at["done text"]))
			s.Copied += 3
		}},
		{"one that leads nowhere", lead("old copy box", 0)},
		{"one that leads to the half's first word", func(s *sample) { s.put("old copy box", 0, 1<<63+uint64(s.To*s.Semi)) }},
		{"one that leads between objects", func(s *sample) { s.put("old copy box", 0, 1<<63+uint64(s.at["copy box"]+1)) }},
		{"one that leads to Top", func(s *sample) { s.put("old copy box", 0, 1<<63+uint64(s.Top)) }},
		{"one that leads to itself", func(s *sample) { s.put("old copy box", 0, 1<<63+uint64(s.at["old copy box"])) }},
		{"one that leads to the other half's object", func(s *sample) { s.put("old copy box", 0, 1<<63+uint64(s.at["old text"])) }},
		{"one that leads to another size", func(s *sample) { s.put("old copy box", 0, 1<<63+uint64(s.at["new table"])) }},
		{"one that leads past the end", lead("old copy box", 600)},
		{"one that leads far off", lead("old copy box", 1<<31-1)},
		{"one with bits that are too high", func(s *sample) { s.put("old copy box", 0, 1<<63+1<<31+uint64(s.at["copy box"])) }},
		{"Copied one less", func(s *sample) { s.Copied-- }},
		{"Copied one more", func(s *sample) { s.Copied++ }},
		{"Copied without the words of heads", func(s *sample) { s.Copied -= 4 }},
		{"Copied all", func(s *sample) { s.Copied = 187 }},
		{"Copied far off", func(s *sample) { s.Copied = math.MinInt }},
		{"Old one less", func(s *sample) { s.Old-- }},
		{"Old one more", func(s *sample) { s.Old++ }},
		{"Old in the half in use", func(s *sample) { s.Old = s.at["copy box"] }},
		{"no Cycle", func(s *sample) { s.Cycle = false }},
		{"no Cycle, and its numbers 0", func(s *sample) { s.Cycle, s.Scan, s.Old, s.Copied = false, 0, 0, 0 }},
	})
	checkTurns(t, cycleSample, true, []turn{
		{"one that leads to another object of the size", func(s *sample) {
			s.put("old copy box", 0, 1<<63+uint64(s.at["done box"]))
		}},
		{"one less than the serial that comes next", func(s *sample) { s.put("old fun", 0, packed(impl.Head{Kind: impl.KFun, Size: 5, Serial: 8})) }},
		{"the object behind the last one that is copied", func(s *sample) { s.Old = s.at["old co"]; s.put("copy block", 1+4*2+2, 0, 0) }},
	})
}

// Where a reference may lead from where, while a Cycle runs.
func TestHalvesOfReferences(t *testing.T) {
	leads := func(name string, at int, tag int, to string) func(s *sample) {
		return func(s *sample) { s.put(name, at, pairs(ref(tag, s.at[to]))...) }
	}
	root := func(tag int, to string) func(s *sample) {
		return func(s *sample) { s.Roots[2] = ref(tag, s.at[to]) }
	}
	checkTurns(t, cycleSample, false, []turn{
		{"ahead of Scan to a head of the other half", leads("done box", 1, impl.TStr, "old text")},
		{"ahead of Scan to a forwarded word", leads("done box", 1, impl.TStr, "old done")},
		{"from a Root to a head of the other half", root(impl.TStr, "old text")},
		{"from a Root to a forwarded word", root(impl.TStr, "old done")},
		{"from a Root to a forwarded box", root(impl.TCell, "old copy box")},
		{"from the other half into the half in use", leads("old box", 1, impl.TCell, "copy box")},
		{"from the other half to a new object", leads("old box", 1, impl.TTab, "new table")},
		{"from the other half's function", leads("old fun", 2, impl.TCell, "copy box")},
		{"from the other half's table", leads("old table", 2, impl.TBlk, "copy block")},
		{"from the other half's coroutine", func(s *sample) {
			s.put("old co", 1, 0, 1)
			s.put("old co", 7, pairs(ref(impl.TStr, s.at["done text"]))...)
		}},
		{"at Scan, to a forwarded word of another kind", leads("copy block", 5+2, impl.TTab, "old done")},
		{"behind Scan, to a forwarded word of another kind", leads("copy box", 1, impl.TCell, "old copy table")},
		{"behind Scan, between the other half's objects", func(s *sample) { s.put("copy box", 1, impl.TStr, uint64(s.at["old text"]+1)) }},
		{"behind Scan, behind a forwarded word", func(s *sample) { s.put("copy box", 1, impl.TStr, uint64(s.at["old done"]+1)) }},
		{"behind Scan, to Old", func(s *sample) {
			(&layer{s.Words, s.Old}).text("")
			s.put("copy box", 1, impl.TStr, uint64(s.Old))
		}},
		{"behind Scan, to the other half's first word", func(s *sample) { s.put("copy box", 1, impl.TStr, uint64(s.Semi-s.To*s.Semi)) }},
	})
	checkTurns(t, cycleSample, true, []turn{
		{"ahead of Scan to one that is at Scan or behind it", leads("done box", 1, impl.TCell, "copy box")},
		{"at Scan to a head of the other half", leads("copy block", 5+2, impl.TStr, "old text")},
		{"at Scan to a forwarded word", leads("copy block", 5+2, impl.TTab, "old copy table")},
		{"at Scan into the half in use", leads("copy block", 5+2, impl.TTab, "copy table")},
		{"behind Scan to a forwarded word", leads("copy box", 1, impl.TStr, "old done")},
		{"behind Scan into the half in use", leads("copy box", 1, impl.TStr, "done text")},
		{"behind Scan to itself", leads("copy box", 1, impl.TCell, "copy box")},
		{"behind Scan to itself by a forwarded word", leads("copy box", 1, impl.TCell, "old copy box")},
		{"from the other half to a head there", leads("old box", 1, impl.TStr, "old text")},
		{"from the other half to itself", leads("old box", 1, impl.TCell, "old box")},
		{"from the other half to a forwarded word there", leads("old box", 1, impl.TStr, "old done")},
		{"from a Root to one ahead of Scan", root(impl.TStr, "done text")},
		{"from a Root to one behind Scan", root(impl.TTab, "new table")},
	})
}

// Every tag to every object: right just where the kinds fit.
func TestKindsOfReferences(t *testing.T) {
	kinds := map[int]int{impl.TStr: impl.KStr, impl.TTab: impl.KTab, impl.TFun: impl.KFun, impl.TCo: impl.KCo, impl.TCell: impl.KCell}
	for to := range 2 {
		still, running := stillSample(300, to), cycleSample(300, to)
		for _, tag := range refTags() {
			for name, at := range still.at {
				h, _ := impl.ReadHead(still.Words[at])
				want := h.Kind == kinds[tag]
				s := still.twin()
				s.put("box", 1, pairs(ref(tag, at))...)
				if impl.ArenaOk(s.Arena) != want {
					t.Errorf("half %d: from a box, %d to %s: %v", to, tag, name, !want)
				}
				s = still.twin()
				s.Roots[0] = ref(tag, at)
				if impl.ArenaOk(s.Arena) != want {
					t.Errorf("half %d: from a Root, %d to %s: %v", to, tag, name, !want)
				}
			}
			for name, at := range running.at {
				s := running.twin()
				s.put("copy box", 1, pairs(ref(tag, at))...)
				if got := modelOk(s.Arena); impl.ArenaOk(s.Arena) != got {
					t.Errorf("half %d: %d to %s: %v", to, tag, name, !got)
				}
			}
		}
	}
}

func wrongPlacesOf(s sample) []int {
	return []int{s.To * s.Semi, s.at["box"] + 1, s.at["box"] + 2, s.Top, s.Top + 1, s.Semi - s.To*s.Semi + 1,
		len(s.Words) - 1, len(s.Words), len(s.Words) + 1, 0, -1, math.MinInt, math.MaxInt, 1 << 32, s.at["nine"] + 1<<32, s.at["nine"] + math.MinInt}
}

func TestReferencesToNothing(t *testing.T) {
	for to := range 2 {
		still := stillSample(300, to)
		// Words that look like objects, but are behind Top, or in a half that is not in use.
		(&layer{still.Words, still.Top}).text("behind")
		(&layer{still.Words, (1-to)*still.Semi + 1}).text("beside")
		for _, at := range wrongPlacesOf(still) {
			for _, tag := range refTags() {
				for name, from := range map[string]int{"box": 1, "boxbox": 1, "fun": 2, "loose": 3, "table": 2, "co": 7} {
					s := still.twin()
					s.put(name, from, pairs(ref(tag, at))...)
					checkRefused(t, name, s.Arena)
				}
				s := still.twin()
				s.Roots[1] = ref(tag, at)
				checkRefused(t, "a Root", s.Arena)
			}
		}
	}
}

func TestSlotsAndRootsThatAreNoValues(t *testing.T) {
	for to := range 2 {
		still, running := stillSample(300, to), cycleSample(300, to)
		for _, v := range wrongVals() {
			s := still.twin()
			s.put("box", 1, pairs(v)...)
			checkRefused(t, "a box", s.Arena)
			s = still.twin()
			s.put("loose", 3, pairs(v)...)
			checkRefused(t, "a block", s.Arena)
			s = still.twin()
			s.put("co", 7, pairs(v)...)
			checkRefused(t, "a stack", s.Arena)
			s = still.twin()
			s.Roots[0] = v
			checkRefused(t, "a Root", s.Arena)
			s = running.twin()
			s.put("old box", 1, pairs(v)...)
			checkRefused(t, "a box of the other half", s.Arena)
		}
	}
}

func TestWhereBlocksStand(t *testing.T) {
	block := func(name string, at int) func(s *sample) {
		return func(s *sample) { s.put(name, at, pairs(ref(impl.TBlk, s.at["loose"]))...) }
	}
	checkTurns(t, stillSample, false, []turn{
		{"a box", block("box", 1)},
		{"a function", block("fun", 2)},
		{"a block's key", block("loose", 1)},
		{"a block's value", block("loose", 3)},
		{"who has resumed", block("co", 5)},
		{"a stack", block("co", 7)},
		{"a Root", func(s *sample) { s.Roots[0] = ref(impl.TBlk, s.at["loose"]) }},
	})
	checkTurns(t, cycleSample, false, []turn{
		{"a box behind Scan", func(s *sample) { s.put("copy box", 1, pairs(ref(impl.TBlk, s.at["old block"]))...) }},
		{"a box of the other half", func(s *sample) { s.put("old box", 1, pairs(ref(impl.TBlk, s.at["old block"]))...) }},
		{"a Root", func(s *sample) { s.Roots[0] = ref(impl.TBlk, s.at["copy block"]) }},
	})
}

func TestWrongTexts(t *testing.T) {
	count := func(name string, n uint64) func(s *sample) {
		return func(s *sample) { s.put(name, 1, n) }
	}
	turns := []turn{
		{"a byte too many", count("eight", 9)},
		{"a byte too few for its size", count("nine", 8)},
		{"as many as its size is not for", count("nine", 17)},
		{"bytes where there are none", count("empty", 1)},
		{"none where there are some", count("eight", 0)},
		{"a number cut to 32 bits", count("nine", 1<<32+9)},
		{"a number with the highest bit", count("nine", 1<<63+9)},
		{"too many", count("nine", math.MaxUint64)},
		{"fewer bytes, the others left over", count("eight", 7)},
	}
	for i := 1; i < 8; i++ {
		turns = append(turns, turn{"left over", func(s *sample) { s.put("nine", 3, 0xff+1<<(8*i)) }})
	}
	checkTurns(t, stillSample, false, turns)
	checkTurns(t, cycleSample, false, []turn{
		{"left over in the other half", func(s *sample) { s.put("old text", 1, 7) }},
		{"left over ahead of Scan", func(s *sample) { s.put("done text", 2, 1<<32+0x656e6f64) }},
	})
}

func TestTextsOfAllLengths(t *testing.T) {
	for n := range impl.MaxText + 1 {
		a := newArena(impl.MinSemi, n%2)
		l := &layer{a.Words, a.Top}
		at := l.text(strings.Repeat("\xff", n))
		a.Top = l.at
		for count := range uint64(impl.MaxText + 20) {
			a.Words[at+1] = count
			if impl.ArenaOk(a) != (count == uint64(n)) && (count+7)/8 != uint64(n+7)/8 {
				t.Errorf("%d bytes told as %d", n, count)
			}
			if want := modelOk(a); impl.ArenaOk(a) != want {
				t.Errorf("%d bytes told as %d: %v", n, count, !want)
			}
		}
		a.Words[at+1] = uint64(n)
		if !impl.ArenaOk(a) {
			t.Errorf("%d bytes refused", n)
		}
	}
}

func TestFunctions(t *testing.T) {
	proto := func(n uint64) func(s *sample) {
		return func(s *sample) { s.put("fun", 1, n) }
	}
	slot := func(v impl.Val) func(s *sample) {
		return func(s *sample) { s.put("fun", 4, pairs(v)...) }
	}
	checkTurns(t, stillSample, false, []turn{
		{"a Proto too many", proto(256)},
		{"a Proto cut to 32 bits", proto(1<<32 + 1)},
		{"a Proto with the highest bit", proto(1<<63 + 1)},
		{"a slot that is nothing", slot(impl.Val{})},
		{"a slot that is a number", slot(num(5))},
		{"a slot that is a text", func(s *sample) { s.put("fun", 2, pairs(ref(impl.TStr, s.at["nine"]))...) }},
	})
	checkTurns(t, stillSample, true, []turn{
		{"the least Proto", proto(0)},
		{"the greatest Proto", proto(255)},
	})
}

func TestCoroutines(t *testing.T) {
	words := func(w ...uint64) func(s *sample) {
		return func(s *sample) { s.put("co", 1, w...) }
	}
	stack := func(i int, v impl.Val) func(s *sample) {
		return func(s *sample) { s.put("co", 7+2*i, pairs(v)...) }
	}
	checkTurns(t, stillSample, false, []turn{
		{"a status too many", words(5)},
		{"a status with the highest bit", words(1 << 63)},
		{"a top above StackCap", words(0, impl.StackCap+1)},
		{"a top with the highest bit", words(0, 1<<63+3)},
		{"a base above the top", words(0, 3, 4)},
		{"a base above the top, at StackCap", words(0, 3, impl.StackCap)},
		{"a base with the highest bit", words(0, 3, 1<<63)},
		{"a place too far", words(0, 3, 3, 4096)},
		{"a place with the highest bit", words(0, 3, 3, 1<<63)},
		{"something at the top", stack(3, num(0))},
		{"a no at the top", stack(3, impl.Val{Tag: impl.TBool})},
		{"something at the last slot", stack(59, yes())},
		{"a top below what stands there", words(0, 2, 2)},
		{"no top", words(0, 0, 0)},
		{"a number has resumed it", func(s *sample) { s.put("co", 5, pairs(num(0))...) }},
		{"a table has resumed it", func(s *sample) { s.put("co", 5, pairs(ref(impl.TTab, s.at["table"]))...) }},
		{"a box has resumed it", func(s *sample) { s.put("co", 5, pairs(ref(impl.TCell, s.at["box"]))...) }},
	})
	checkTurns(t, stillSample, true, []turn{
		{"the least words", func(s *sample) { s.put("co", 1, make([]uint64, 126)...) }},
		{"the greatest words", words(4, impl.StackCap, impl.StackCap, 4095)},
		{"a base of 0", words(1, 3, 0, 0)},
		{"a stack up to its end", func(s *sample) {
			s.put("co", 1, 2, impl.StackCap, 3)
			for i := range impl.StackCap {
				s.put("co", 7+2*i, pairs(num(i))...)
			}
		}},
		{"it has resumed itself", func(s *sample) { s.put("co", 5, pairs(ref(impl.TCo, s.at["co"]))...) }},
		{"nothing below the top", stack(1, impl.Val{})},
		{"references below the top", func(s *sample) {
			s.put("co", 7, pairs(ref(impl.TTab, s.at["table"]), ref(impl.TFun, s.at["fun"]), ref(impl.TStr, s.at["nine"]))...)
		}},
	})
}
