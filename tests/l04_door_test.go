package tests

import (
	"fmt"
	"math"
	"slices"
	"testing"

	"loop.example/g00101/impl"
)

func TestDoorConstants(t *testing.T) {
	if impl.Done != 0 || impl.Bad != 1 || impl.NoMem != 2 || impl.Pace != 2 {
		t.Error("codes", impl.Done, impl.Bad, impl.NoMem, impl.Pace)
	}
}

// slotOf is the slot of that number of the object at a place, as it stands there.
func slotOf(a impl.Arena, at int, slot int) impl.Val {
	h, _ := impl.ReadHead(a.Words[at])
	v, _ := impl.GetVal(a.Words, at+impl.Slots(h.Kind, h.Size)[slot])
	return v
}

// shelf has boxes of a number, of a text, of a box and of a function, that function, and garbage; the last Root is spare.
func shelf(semi int, to int) impl.Arena {
	a := newArena(semi, to)
	l := &layer{a.Words, a.Top}
	number := ref(impl.TCell, l.cell(num(7)))
	l.text("garbage that is left behind")
	text := ref(impl.TStr, l.text("a text"))
	box := ref(impl.TCell, l.cell(text))
	boxbox := ref(impl.TCell, l.cell(box))
	fun := ref(impl.TFun, l.fun(4, 200, number, boxbox, number))
	holder := ref(impl.TCell, l.cell(fun))
	a.Top, a.Serial = l.at, 5
	a.Roots = []impl.Val{number, box, boxbox, holder, {}}
	return a
}

// stages are arenas that say the same, half to in use: without a Cycle, with one that has just begun, and with one that is nearly over.
func stages(of func(semi int, to int) impl.Arena, semi int, to int) map[string]impl.Arena {
	begun, _ := impl.Flip(of(semi, 1-to))
	nearly := begun
	for {
		next, _ := impl.CopyStep(nearly, 1)
		if !next.Cycle {
			return map[string]impl.Arena{"still": of(semi, to), "begun": begun, "nearly over": nearly}
		}
		nearly = next
	}
}

func TestStages(t *testing.T) {
	for to := range 2 {
		list := stages(shelf, 300, to)
		for name, a := range list {
			if a.To != to || a.Cycle != (name != "still") || !impl.ArenaOk(a) || !sameTale(taleOf(a), taleOf(list["still"])) {
				t.Errorf("%s is no stage", name)
			}
		}
		if list["begun"].Copied >= list["nearly over"].Copied || list["begun"].Scan != to*300+1 {
			t.Error("the stages are one")
		}
	}
}

// Whether a Cycle runs or not, the same is loaded, made and set, and the same serials are given.
func TestStagesTellTheSame(t *testing.T) {
	const spare = 4
	do := func(a impl.Arena) (impl.Arena, []string) {
		var told []string
		tell := func(name string, answer any) {
			told = append(told, fmt.Sprint(name, " ", answer, " ", taleOf(a).lines))
			if !impl.ArenaOk(a) {
				t.Fatalf("%s leaves an arena that is not right", name)
			}
		}
		var ok bool
		var code int
		for r := range spare {
			a, ok = impl.Load(a, r, 0, spare)
			tell("Load", ok)
		}
		a, ok = impl.Load(a, spare, 1, 2) // of the function
		tell("Load", ok)
		a, ok = impl.Load(a, 2, 0, 2) // in its own place
		tell("Load", ok)
		a, code = impl.NewFun(a, 3, []int{0, 1, 0}, 3)
		tell("NewFun", code)
		a, code = impl.NewCell(a, 3, 3)
		tell("NewCell", code)
		a, ok = impl.SetCell(a, 0, 3)
		tell("SetCell", ok)
		a, code = impl.NewFun(a, 9, []int{3}, 1)
		tell("NewFun", code)
		tell("SerialOf", impl.SerialOf(a, 1))
		return a, told
	}
	for to := range 2 {
		for _, semi := range []int{impl.MinSemi, 300} {
			list := stages(shelf, semi, to)
			_, want := do(list["still"])
			for name, a := range list {
				if _, told := do(a); !slices.Equal(told, want) {
					t.Errorf("half %d, %s: told\n%v\nwant\n%v", to, name, told, want)
				}
			}
		}
	}
}

// What is made has what it was made with, by hand.
func TestMadeByHand(t *testing.T) {
	for to := range 2 {
		a := newArena(300, to)
		a.Roots = []impl.Val{num(7), {}, {}, {}}
		begin := to*300 + 1
		b, code := impl.NewCell(a, 0, 1)
		if code != impl.Done || b.Roots[1] != ref(impl.TCell, begin) || b.Top != begin+3 || b.Serial != 1 {
			t.Fatal("a box", code, b.Roots)
		}
		c, code := impl.NewCell(b, 1, 2)
		if code != impl.Done || c.Roots[2] != ref(impl.TCell, begin+3) || c.Top != begin+6 || c.Serial != 1 {
			t.Fatal("a box of a box", code, c.Roots)
		}
		d, code := impl.NewFun(c, 77, []int{2, 1}, 3)
		if code != impl.Done || d.Roots[3] != ref(impl.TFun, begin+6) || d.Top != begin+12 || d.Serial != 2 {
			t.Fatal("a function", code, d.Roots)
		}
		e, code := impl.NewFun(d, 0, nil, 0)
		if code != impl.Done || e.Roots[0] != ref(impl.TFun, begin+12) || e.Top != begin+14 || e.Serial != 3 {
			t.Fatal("a function without boxes", code, e.Roots)
		}
		want := slices.Concat(
			[]uint64{packed(impl.Head{Kind: impl.KCell, Size: 2})}, pairs(num(7)),
			[]uint64{packed(impl.Head{Kind: impl.KCell, Size: 2})}, pairs(ref(impl.TCell, begin)),
			[]uint64{packed(impl.Head{Kind: impl.KFun, Size: 5, Serial: 1}), 77}, pairs(ref(impl.TCell, begin+3), ref(impl.TCell, begin)),
			[]uint64{packed(impl.Head{Kind: impl.KFun, Size: 1, Serial: 2}), 0})
		if !slices.Equal(e.Words[begin:e.Top], want) {
			t.Errorf("half %d: the words are %x, want %x", to, e.Words[begin:e.Top], want)
		}
		if e.Words[begin-1] != 0xF00D || e.Words[e.Top] != 0xF00D {
			t.Error("words were written that no object has")
		}
		if impl.SerialOf(e, 3) != 1 || impl.SerialOf(e, 0) != 2 || impl.SerialOf(e, 1) != 0 {
			t.Error("serials")
		}
		if p, ok := impl.ProtoOf(e, 3); !ok || p != 77 {
			t.Error("proto", p, ok)
		}
	}
}

// A box that is made twice with the same value is two boxes, and what one is set to is not in the other one.
func TestTwoBoxes(t *testing.T) {
	for to := range 2 {
		for name, a := range stages(shelf, 300, to) {
			a, _ = impl.SetRoot(a, 4, num(7))
			a, one := impl.NewCell(a, 4, 0)
			a, two := impl.NewCell(a, 4, 1)
			if one != impl.Done || two != impl.Done || a.Roots[0] == a.Roots[1] || impl.SameRoots(a, 0, 1) {
				t.Fatal(name, "the boxes are one", a.Roots)
			}
			a, _ = impl.SetRoot(a, 4, num(8))
			a, _ = impl.SetCell(a, 0, 4)
			a, _ = impl.Load(a, 0, 0, 2)
			a, _ = impl.Load(a, 1, 0, 3)
			if a.Roots[2] != num(8) || a.Roots[3] != num(7) {
				t.Error(name, "the boxes have", a.Roots[2], a.Roots[3])
			}
			a, _ = impl.MoveRoot(a, 1, 0)
			if !impl.SameRoots(a, 0, 1) {
				t.Error(name, "one box is not the same as itself")
			}
		}
	}
}

// Serials rise by one with each function, through any number of cycles; a box takes none, and none is given twice.
func TestSerialsRise(t *testing.T) {
	a, _ := impl.NewArena(impl.MinSemi, 4)
	flips, was := 0, 0
	for n := 1; n <= 400; n++ {
		var code int
		a, code = impl.NewFun(a, n%256, nil, n%3)
		if code != impl.Done || impl.SerialOf(a, n%3) != n || a.Serial != n+1 {
			t.Fatalf("function %d: %d, serial %d", n, code, impl.SerialOf(a, n%3))
		}
		if n > 3 && (impl.SerialOf(a, (n-1)%3) != n-1 || impl.SerialOf(a, (n-2)%3) != n-2) {
			t.Fatalf("function %d: the ones ahead of it have other serials", n)
		}
		a, code = impl.NewCell(a, n%3, 3)
		if code != impl.Done || a.Serial != n+1 || impl.SerialOf(a, 3) != 0 {
			t.Fatalf("box %d: %d, the next serial is %d", n, code, a.Serial)
		}
		if a.To != was {
			flips, was = flips+1, a.To
		}
	}
	if flips < 5 {
		t.Error("only", flips, "flips")
	}
}

func TestSameRoot(t *testing.T) {
	for to := range 2 {
		for name, a := range stages(shelf, 300, to) {
			number, _ := impl.Load(a, 1, 0, 1) // r and into are one: the box's text
			if number.Roots[1].Tag != impl.TStr || !impl.ArenaOk(number) {
				t.Error(name, "Load", number.Roots[1])
			}
			made, _ := impl.NewCell(a, 2, 2) // from and into are one: a box of what the Root was
			if v := slotOf(made, made.Roots[2].N, 0); v.Tag != impl.TCell || v == made.Roots[2] || !impl.ArenaOk(made) {
				t.Error(name, "NewCell", made.Roots[2], v)
			}
			set, ok := impl.SetCell(a, 0, 0) // r and from are one: a box that has itself
			if !ok || slotOf(set, set.Roots[0].N, 0) != set.Roots[0] || !impl.ArenaOk(set) {
				t.Error(name, "SetCell", set.Roots[0])
			}
			again, ok := impl.Load(set, 0, 0, 0)
			if !ok || again.Roots[0] != set.Roots[0] || !sameArena(again, set) {
				t.Error(name, "Load of a box that has itself", again.Roots[0])
			}
			fun, code := impl.NewFun(a, 1, []int{0, 0, 1}, 0) // a cell and into are one, and named twice
			at := fun.Roots[0].N
			if code != impl.Done || slotOf(fun, at, 0) != slotOf(fun, at, 1) || slotOf(fun, at, 2) != fun.Roots[1] || !impl.ArenaOk(fun) {
				t.Error(name, "NewFun", fun.Roots)
			}
			if h, _ := impl.HeadAt(fun, at); h != (impl.Head{Kind: impl.KFun, Size: 7, Serial: 5}) {
				t.Error(name, "NewFun", h)
			}
		}
	}
}

func TestProtos(t *testing.T) {
	for to := range 2 {
		for name, a := range stages(shelf, 300, to) {
			for _, proto := range []int{0, 1, 254, 255} {
				out, code := impl.NewFun(a, proto, []int{0}, 4)
				if got, ok := impl.ProtoOf(out, 4); code != impl.Done || !ok || got != proto || !impl.ArenaOk(out) {
					t.Errorf("%s: proto %d is %d, %v", name, proto, got, ok)
				}
			}
			for _, proto := range []int{math.MinInt, -1, 256, math.MaxInt} {
				if out, code := impl.NewFun(a, proto, []int{0}, 4); code != impl.Bad || !sameArena(out, a) {
					t.Errorf("%s: proto %d is taken", name, proto)
				}
			}
			for r, v := range a.Roots {
				if got, ok := impl.ProtoOf(a, r); ok || got != 0 {
					t.Errorf("%s: the proto of %v is %d", name, v, got)
				}
			}
		}
	}
}

func TestCellsOfAFunction(t *testing.T) {
	for to := range 2 {
		for name, a := range stages(shelf, 300, to) {
			for n := range impl.MaxUps + 3 {
				cells := make([]int, n)
				for i := range cells {
					cells[i] = i % 4
				}
				out, code := impl.NewFun(a, 5, cells, 4)
				if n > impl.MaxUps {
					if code != impl.Bad || !sameArena(out, a) {
						t.Errorf("%s: %d cells are taken", name, n)
					}
					continue
				}
				h, _ := impl.HeadAt(out, out.Roots[4].N)
				if code != impl.Done || h.Size != 1+2*n || !impl.ArenaOk(out) {
					t.Fatalf("%s: %d cells: %d, %v", name, n, code, h)
				}
				for i, r := range cells {
					var ok bool
					if out, ok = impl.Load(out, 4, i, 3); !ok || i%4 != 3 && !impl.SameRoots(out, 3, r) {
						t.Errorf("%s: cell %d of %d is %v", name, i, n, out.Roots[3])
					}
				}
			}
		}
	}
}

func TestSerialAtItsEnd(t *testing.T) {
	for to := range 2 {
		for name, a := range stages(shelf, 300, to) {
			a.Serial = impl.MaxSerial - 1
			a, code := impl.NewFun(a, 1, []int{0}, 4)
			if code != impl.Done || impl.SerialOf(a, 4) != impl.MaxSerial-1 || a.Serial != impl.MaxSerial || !impl.ArenaOk(a) {
				t.Fatal(name, "the last serial", code, impl.SerialOf(a, 4), a.Serial)
			}
			if out, code := impl.NewFun(a, 1, []int{0}, 4); code != impl.Bad || !sameArena(out, a) {
				t.Error(name, "a serial behind the last one", code)
			}
			if out, code := impl.NewCell(a, 4, 4); code != impl.Done || out.Serial != impl.MaxSerial || !impl.ArenaOk(out) {
				t.Error(name, "a box needs no serial", code)
			}
		}
		// Without a serial that is left nothing is flipped, and whether there is room is not asked.
		a := chain(impl.MinSemi, to, 85)
		a.Serial = impl.MaxSerial
		if out, code := impl.NewFun(a, 1, nil, 0); code != impl.Bad || !sameArena(out, a) {
			t.Error("no serial and no room", code)
		}
	}
}

// Of each kind what SerialOf and ProtoOf tell, in each stage of a cycle.
func TestSerialOfEachKind(t *testing.T) {
	serials := map[string]int{"table": 7, "none": 8, "bare": 3, "one": 4, "twelve": 5, "co": 6}
	protos := map[string]int{"bare": 0, "one": 255, "twelve": 1}
	for to := range 2 {
		for stage, s := range kindsAtHand(300, to) {
			in := roomy(s.Arena)
			was := allOf(in)
			for name, r := range s.at {
				if got := impl.SerialOf(in, r); got != serials[name] {
					t.Errorf("stage %d: the serial of %s is %d", stage, name, got)
				}
				want, isFun := protos[name]
				if got, ok := impl.ProtoOf(in, r); ok != isFun || got != want {
					t.Errorf("stage %d: the proto of %s is %d, %v", stage, name, got, ok)
				}
			}
			if !sameArena(whole(in), was) {
				t.Errorf("stage %d: the argument was written into", stage)
			}
		}
	}
}

// checkSame asks for each two Roots whether they are the same: those with one name are.
func checkSame(t *testing.T, a impl.Arena, names []string) {
	t.Helper()
	in := roomy(a)
	was := allOf(in)
	for r, name := range names {
		for s, other := range names {
			if got := impl.SameRoots(in, r, s); got != (name == other) {
				t.Errorf("SameRoots of %v and %v is %v", a.Roots[r], a.Roots[s], got)
			}
		}
	}
	if !sameArena(whole(in), was) {
		t.Error("the argument was written into")
	}
}

// Roots of one N and two Tags are not the same; of one Tag by what they are.
func TestSameByTagAndNumber(t *testing.T) {
	a := newArena(impl.MinSemi, 0)
	l := &layer{a.Words, a.Top}
	first := l.text("x") // at 1, so that it has the N of true, of 1 and of a library function
	l.text("y")
	box, twin := l.cell(num(1)), l.cell(num(1))
	fun, fun2 := l.fun(1, 1), l.fun(2, 1)
	tab, tab2 := l.table(3, 0, impl.Val{}), l.table(4, 0, impl.Val{})
	a.Top, a.Serial = l.at, 5
	a.Roots = []impl.Val{
		{}, {}, {Tag: impl.TBool}, num(0),
		yes(), num(1), {Tag: impl.TLib, N: 1}, ref(impl.TStr, first), yes(), num(1), {Tag: impl.TLib, N: 2},
		ref(impl.TCell, box), num(box), ref(impl.TCell, twin), ref(impl.TCell, box),
		ref(impl.TFun, fun), num(fun), ref(impl.TFun, fun2), ref(impl.TTab, tab), ref(impl.TTab, tab2), ref(impl.TTab, tab), num(math.MinInt),
	}
	checkSame(t, a, []string{
		"nil", "nil", "false", "0",
		"true", "1", "lib 1", "x", "true", "1", "lib 2",
		"box", "the box's place", "twin", "box",
		"fun", "the function's place", "fun 2", "tab", "tab 2", "tab", "least",
	})
}

// Texts are compared by their bytes where they lie: copied ones, and new ones that no step has gone over.
func TestSameTexts(t *testing.T) {
	long := "abcdefghabcdefgh"
	for to := range 2 {
		a := newArena(300, 1-to)
		l := &layer{a.Words, a.Top}
		texts := []string{"", "a", "b", "abcdefgh", long, long[:15], "\x00", "\x00\x00", long, ""}
		for _, s := range texts {
			a.Roots = append(a.Roots, ref(impl.TStr, l.text(s)))
		}
		keeper := l.cell(ref(impl.TStr, l.text("never copied")))
		a.Roots = append(a.Roots, ref(impl.TCell, keeper))
		a.Top = l.at
		checkSame(t, a, append(slices.Clone(texts), "the keeper"))
		b, _ := impl.Flip(a)
		checkSame(t, b, append(slices.Clone(texts), "the keeper"))
		n := &layer{b.Words, b.Top} // new ones, behind those that were copied
		for _, s := range texts {
			b.Roots = append(b.Roots, ref(impl.TStr, n.text(s)))
		}
		b.Top = n.at
		if !b.Cycle || !impl.ArenaOk(b) {
			t.Fatal("no Cycle runs", b.Cycle)
		}
		checkSame(t, b, slices.Concat(texts, []string{"the keeper"}, texts))
	}
}
