package tests

import (
	"fmt"
	"math"
	"slices"
	"testing"

	"loop.example/g00101/impl"
)

func checkCensus(t *testing.T, name string, a impl.Arena, want ...int) {
	t.Helper()
	checkNumbers(t, name+": Census", a, impl.Census, want)
	checkKins(t, name, a)
}

// Of each kind how many objects, and how many words with their heads.
func TestCensusByHand(t *testing.T) {
	empty, _ := impl.NewArena(256, 3)
	checkCensus(t, "empty", empty, 0, 0, 0, 0, 0, 0, 0, 0, 0, 0, 0, 0)
	checkCensus(t, "small", smallArena(), 0, 0, 0, 0, 0, 0, 1, 4, 1, 3, 0, 0)
	checkCensus(t, "full", filled(0), 85, 255, 0, 0, 0, 0, 0, 0, 0, 0, 0, 0)
	for to := range 2 {
		// Texts of 2, 3 and 4 words, blocks of 17, functions of 6 and 2.
		still := stillSample(300, to).Arena
		checkCensus(t, "still", still, 3, 9, 2, 8, 2, 34, 2, 8, 2, 6, 1, 127)
		still.Roots = nil // whether it can be reached does not matter
		checkCensus(t, "still, without Roots", still, 3, 9, 2, 8, 2, 34, 2, 8, 2, 6, 1, 127)
		// The half in use alone: a text, boxes, a block, tables.
		cycle := cycleSample(300, to).Arena
		checkCensus(t, "a cycle", cycle, 1, 3, 2, 8, 1, 17, 0, 0, 2, 6, 0, 0)
	}
}

// Flipped, there is what Roots lead to; then what is copied; behind a collection what can be reached.
func TestCensusStepByStep(t *testing.T) {
	for to := range 2 {
		a := smallArena()
		a.Roots = a.Roots[2:]
		a = flippedOf(a)
		checkCensus(t, "flipped", a, 0, 0, 0, 0, 0, 0, 1, 4, 0, 0, 0, 0)
		a, _ = impl.CopyStep(a, 1)
		checkCensus(t, "a step", a, 0, 0, 0, 0, 0, 0, 1, 4, 1, 3, 0, 0)
		a, _ = impl.CopyStep(a, 1)
		checkCensus(t, "over", a, 0, 0, 0, 0, 0, 0, 1, 4, 1, 3, 0, 0)
		collected, _ := impl.Collect(stillSample(300, to).Arena)
		checkCensus(t, "collected", collected, 1, 4, 1, 4, 1, 17, 1, 6, 2, 6, 1, 127)
		collected.Roots = nil
		collected, _ = impl.Collect(collected)
		checkCensus(t, "collected without Roots", collected, 0, 0, 0, 0, 0, 0, 0, 0, 0, 0, 0, 0)
	}
}

// Behind a collection the words of all kinds together are those that can be reached; at all times they are those in use.
func TestCensusTellsAllWords(t *testing.T) {
	for to := range 2 {
		for name, a := range zoosOf(to) {
			for a = flippedOf(a); a.Cycle; a, _ = impl.CopyStep(a, 1) {
				checkTotals(t, name, a)
			}
			a, _ = impl.Collect(a)
			if checkTotals(t, name, a) != impl.Reached(a) {
				t.Error(name, impl.Census(a), impl.Reached(a))
			}
		}
	}
}

func checkTotals(t *testing.T, name string, a impl.Arena) int {
	t.Helper()
	objects, words := 0, 0
	for i, n := range impl.Census(a) {
		if i%2 == 0 {
			objects += n
		} else {
			words += n
		}
	}
	if objects != len(impl.Objects(a)) || words != a.Top-a.To*a.Semi-1 {
		t.Errorf("%s: %d objects of %d words", name, objects, words)
	}
	return words
}

// family has functions that lead to others by boxes, each with a serial, and no garbage.
type family struct {
	*layer
	impl.Arena
}

func newFamily(semi int, to int) *family {
	a := newArena(semi, to)
	return &family{&layer{a.Words, a.Top}, a}
}

// arena is what was laid so far, with these Roots.
func (f *family) arena(roots ...impl.Val) impl.Arena {
	a := f.Arena
	a.Top, a.Serial, a.Roots = f.at, f.Serial, roots
	return a
}

// fun is a new function, that leads to each of these by a box of its own.
func (f *family) fun(to ...impl.Val) impl.Val {
	var boxes []impl.Val
	for _, v := range to {
		boxes = append(boxes, f.box(v))
	}
	f.Serial++
	return ref(impl.TFun, f.layer.fun(f.Serial-1, 7, boxes...))
}

func (f *family) box(v impl.Val) impl.Val { return ref(impl.TCell, f.cell(v)) }

// bind puts another value into a box that was laid.
func (f *family) bind(box impl.Val, v impl.Val) { copy(f.words[box.N+1:], pairs(v)) }

// inAllStages does with an arena, with each of its flips and steps, and with what is collected.
func inAllStages(a impl.Arena, do func(stage string, a impl.Arena)) {
	do("as it is", a)
	b := flippedOf(a)
	for step := 0; b.Cycle; step++ {
		do(fmt.Sprint("behind ", step, " steps"), b)
		b, _ = impl.CopyStep(b, 1)
	}
	do("behind a cycle", b)
	b, _ = impl.Collect(a)
	do("collected", b)
}

// checkKin asks for the kin of each Root, in all stages of a cycle.
func checkKin(t *testing.T, name string, a impl.Arena, want ...[]int) {
	t.Helper()
	if len(want) != len(a.Roots) {
		t.Fatal("not as many as Roots")
	}
	inAllStages(a, func(stage string, a impl.Arena) {
		t.Helper()
		for r := range want {
			checkNumbers(t, fmt.Sprint(name, ", ", stage, ": Kin ", r), a, func(a impl.Arena) []int { return impl.Kin(a, r) }, want[r])
		}
		for _, r := range []int{-1, len(want), len(want) + 1, math.MaxInt, math.MinInt} {
			if list := impl.Kin(a, r); len(list) != 0 {
				t.Errorf("%s, %s: Kin %d is %v", name, stage, r, list)
			}
		}
		checkKins(t, name+", "+stage, a)
	})
}

func TestKinByHand(t *testing.T) {
	for to := range 2 {
		f := newFamily(300, to)
		one := f.fun()           // 1
		two := f.fun(one)        // 2
		three := f.fun(one, two) // 3
		text := ref(impl.TStr, f.text("no kin"))
		box := f.box(three)
		f.Serial += 5
		far := f.fun(box, text) // 9
		f.fun(far)              // 10, which nothing leads to
		checkKin(t, "functions", f.arena(one, two, three, far, box, text, f.box(text), num(1), impl.Val{}, yes(), impl.Val{Tag: impl.TLib, N: 9}),
			[]int{1}, []int{1, 2}, []int{1, 2, 3}, []int{1, 2, 3, 9}, []int{1, 2, 3}, nil, nil, nil, nil, nil, nil)
		checkKin(t, "nothing", f.arena())
	}
}

// What leads to itself, by any way, is its own kin; each is told once, whatever the ways to it.
func TestKinInCircles(t *testing.T) {
	for to := range 2 {
		f := newFamily(400, to)
		box := f.box(impl.Val{})
		one := ref(impl.TFun, f.layer.fun(1, 0, box, box))
		f.bind(box, one)
		f.Serial = 2
		two := f.fun(one, one, box) // 2
		back := f.box(impl.Val{})
		three := f.fun(two, back, two) // 3
		four := f.fun(three)           // 4
		f.bind(back, four)
		self := f.box(impl.Val{})
		f.bind(self, self)
		checkKin(t, "circles", f.arena(one, box, two, three, four, back, self, four),
			[]int{1}, []int{1}, []int{1, 2}, []int{1, 2, 3, 4}, []int{1, 2, 3, 4}, []int{1, 2, 3, 4}, nil, []int{1, 2, 3, 4})
	}
}

// By tables, as keys and as values, dead ones among them, and by coroutines: who has resumed them, and their stacks.
func TestKinOfTablesAndCoroutines(t *testing.T) {
	for to := range 2 {
		checkKin(t, "zoo", zoo(400, to), nil, []int{1, 5}, []int{1, 2, 3, 5}, []int{1, 4, 5, 6}, []int{1, 2, 3, 5}, nil)
		still := stillSample(300, to)
		checkKin(t, "still", still.Arena, nil, nil, nil, nil, nil, []int{1, 3}, []int{1}, []int{5}, nil)
		// Within the cycle that is laid by hand: the table's block was not copied, and leads by what was.
		cycle := cycleSample(300, to).Arena
		for r, want := range [][]int{nil, {1, 2}, nil} {
			checkNumbers(t, fmt.Sprint("a cycle: Kin ", r), cycle, func(a impl.Arena) []int { return impl.Kin(a, r) }, want)
		}
		checkKins(t, "a cycle", cycle)
	}
}

// Kin are told by rising serial, wherever they lie and however they are come to.
func TestKinAscend(t *testing.T) {
	for to := range 2 {
		a := newArena(400, to)
		l := &layer{a.Words, a.Top}
		v := num(0)
		for _, serial := range []int{7, 2, impl.MaxSerial - 1, 40, 1, 39} {
			v = ref(impl.TFun, l.fun(serial, 0, ref(impl.TCell, l.cell(v))))
		}
		a.Top, a.Serial, a.Roots = l.at, impl.MaxSerial, []impl.Val{v}
		checkKin(t, "out of order", a, []int{1, 2, 7, 39, 40, impl.MaxSerial - 1})
		ways := map[int][]int{}
		for i, serial := range []int{39, 1, 40, impl.MaxSerial - 1, 2, 7} {
			ways[serial] = make([]int, 1+2*i)
		}
		checkWay(t, "out of order", a, ways)
	}
}

// checkWay asks for the ways to these serials, in all stages of a cycle; there is none to any other one that is small.
func checkWay(t *testing.T, name string, a impl.Arena, want map[int][]int) {
	t.Helper()
	inAllStages(a, func(stage string, a impl.Arena) {
		t.Helper()
		for serial, way := range want {
			checkNumbers(t, fmt.Sprint(name, ", ", stage, ": Way ", serial), a, wayTo(t, serial), way)
		}
		for _, serial := range []int{math.MinInt, -7, -1, 0, 1, 2, 3, 4, 5, 6, 7, 8, 9, 10, 11, 12, a.Serial, a.Serial + 1, impl.MaxSerial, impl.MaxSerial + 1, math.MaxInt} {
			if way, ok := impl.Way(a, serial); !ok && len(way) != 0 || ok != (len(want[serial]) > 0) {
				t.Errorf("%s, %s: Way %d is %v, %v", name, stage, serial, way, ok)
			}
		}
		checkKins(t, name+", "+stage, a)
	})
}

// Roots, and slots one behind the other; what no Root leads to, or has no serial, has no way.
func TestWaysByHand(t *testing.T) {
	for to := range 2 {
		f := newFamily(300, to)
		one := f.fun()                     // 1
		two := f.fun(num(1), one)          // 2
		three := f.fun(num(1), yes(), two) // 3
		f.fun(three)                       // 4, which nothing leads to
		box := f.box(f.box(three))
		text := ref(impl.TStr, f.text("text"))
		checkWay(t, "two Roots", f.arena(num(3), three), map[int][]int{3: {1}, 2: {1, 2, 0}, 1: {1, 2, 0, 1, 0}})
		checkWay(t, "boxes", f.arena(text, impl.Val{}, box), map[int][]int{3: {2, 0, 0}, 2: {2, 0, 0, 2, 0}, 1: {2, 0, 0, 2, 0, 1, 0}})
		checkWay(t, "without references", f.arena(num(1), num(3)), nil)
		checkWay(t, "a text alone", f.arena(text), nil)
		checkWay(t, "without Roots", f.arena(), nil)
		many := slices.Repeat([]impl.Val{num(1)}, impl.MaxRoots)
		many[23] = three
		checkWay(t, "the last Root", f.arena(many...), map[int][]int{3: {23}, 2: {23, 2, 0}, 1: {23, 2, 0, 1, 0}})
	}
}

// The shortest way, wherever it begins; of those that are as short the first one, number by number.
func TestTheFirstOfTheShortestWays(t *testing.T) {
	for to := range 2 {
		f := newFamily(600, to)
		goal := f.fun() // 1
		far := f.box(f.box(f.box(f.box(goal))))
		checkWay(t, "two Roots", f.arena(num(0), goal, goal), map[int][]int{1: {1}})
		checkWay(t, "a long way ahead of a short one", f.arena(far, f.box(goal)), map[int][]int{1: {1, 0}})
		checkWay(t, "a Root behind all", f.arena(far, f.box(goal), goal), map[int][]int{1: {2}})
		checkWay(t, "two boxes", f.arena(impl.Val{}, f.box(goal), f.box(goal)), map[int][]int{1: {1, 0}})

		two := f.fun(num(0), goal, goal) // 2
		checkWay(t, "two slots", f.arena(two), map[int][]int{2: {0}, 1: {0, 1, 0}})
		three := f.fun(goal) // 3
		checkWay(t, "a slot less, of a Root more", f.arena(two, three), map[int][]int{2: {0}, 3: {1}, 1: {0, 1, 0}})
		checkWay(t, "the other way round", f.arena(three, two), map[int][]int{2: {1}, 3: {0}, 1: {0, 0, 0}})

		// Two ways of one length that part at the second number and meet in the end; the lesser one leads by what was laid later.
		later := f.fun(goal) // 4
		checkWay(t, "parted ways", f.arena(f.fun(num(1), later, three)), map[int][]int{5: {0}, 4: {0, 1, 0}, 3: {0, 2, 0}, 1: {0, 1, 0, 0, 0}})
		checkWay(t, "the other way round", f.arena(f.fun(num(1), three, later)), map[int][]int{6: {0}, 3: {0, 1, 0}, 4: {0, 2, 0}, 1: {0, 1, 0, 0, 0}})
	}
}

// The first way of an object is by the first way of the object ahead of it, whatever their slots.
func TestWaysThatMeet(t *testing.T) {
	for to := range 2 {
		f := newFamily(600, to)
		goal := f.fun() // 1
		meet := f.box(goal)
		// Both lead to the box in as many numbers: the first by a high slot, the second by a low one.
		first := ref(impl.TFun, f.layer.fun(2, 0, f.box(num(1)), f.box(num(2)), f.box(num(3)), meet))
		second := ref(impl.TFun, f.layer.fun(3, 0, meet, meet))
		f.Serial = 4
		checkWay(t, "high ahead of low", f.arena(first, second), map[int][]int{1: {0, 3, 0}, 2: {0}, 3: {1}})
		checkWay(t, "low ahead of high", f.arena(second, first), map[int][]int{1: {0, 0, 0}, 2: {1}, 3: {0}})
		checkWay(t, "a box ahead of both", f.arena(f.box(first), second, first), map[int][]int{1: {1, 0, 0}, 2: {2}, 3: {1}})
	}
}

// What leads to itself makes no way longer.
func TestWaysInCircles(t *testing.T) {
	for to := range 2 {
		f := newFamily(400, to)
		self := f.box(impl.Val{})
		one := ref(impl.TFun, f.layer.fun(1, 0, self, self))
		f.bind(self, one)
		f.Serial = 2
		back := f.box(impl.Val{})
		two := f.fun(one, back)  // 2
		three := f.fun(two, one) // 3
		f.bind(back, three)
		checkWay(t, "by itself", f.arena(self), map[int][]int{1: {0, 0}})
		checkWay(t, "a circle of two", f.arena(two), map[int][]int{2: {0}, 1: {0, 0, 0}, 3: {0, 1, 0, 0}})
		checkWay(t, "from the other one", f.arena(three), map[int][]int{3: {0}, 2: {0, 0, 0}, 1: {0, 1, 0}})
		checkWay(t, "from a box of it", f.arena(back), map[int][]int{3: {0, 0}, 2: {0, 0, 0, 0}, 1: {0, 0, 1, 0}})
	}
}

// A table's slot is 0, its block's are keys and values one behind the other; a coroutine's 0 is who has resumed it, its stack begins at 1.
func TestWaysOfTablesAndCoroutines(t *testing.T) {
	for to := range 2 {
		// Roots: a number, a box of the coroutine 5, the table 3, the coroutine 6, the table again, nothing.
		checkWay(t, "zoo", zoo(400, to), map[int][]int{3: {2}, 6: {3}, 5: {1, 0}, 1: {1, 0, 3}, 2: {2, 0, 4}, 4: {3, 60}})
		still := stillSample(300, to)
		still.Roots = []impl.Val{ref(impl.TTab, still.at["table"])}
		checkWay(t, "a key that is dead", still.Arena, map[int][]int{3: {0}, 1: {0, 0, 2}})
		cycle := cycleSample(300, to).Arena
		for serial, want := range [][]int{nil, {1}, {1, 0, 3}, nil, nil, nil, nil, nil, nil, nil, nil} {
			checkNumbers(t, fmt.Sprint("a cycle: Way ", serial), cycle, wayTo(t, serial), want)
		}
		checkKins(t, "a cycle", cycle)
	}
}

// While a cycle runs, an object is one, whether it is come to where it is or where it was: by a slot that was gone over and by one that was not.
func TestKinAndWaysByTheCopy(t *testing.T) {
	for to := range 2 {
		a := newArena(400, to)
		l := &layer{a.Words, a.Top}
		o := &layer{a.Words, (1-to)*400 + 1}
		goal := l.fun(1, 9)
		done := l.cell(ref(impl.TFun, goal))
		a.Scan = l.at
		was := o.forward(goal, 1)
		mid := o.fun(2, 3, ref(impl.TCell, o.cell(ref(impl.TFun, was))))
		o.fun(4, 3, ref(impl.TCell, o.cell(ref(impl.TFun, mid))))
		behind := l.fun(3, 0, ref(impl.TCell, l.cell(ref(impl.TFun, mid))), ref(impl.TCell, l.cell(ref(impl.TFun, was))))
		a.Cycle, a.Top, a.Old, a.Copied, a.Serial = true, l.at, o.at, 2, 5
		// Words of what was copied are told by nobody.
		a.Words[was+1] = 77
		last := ref(impl.TFun, behind)
		for _, x := range []struct {
			roots []impl.Val
			kin   []int
			ways  map[int][]int
		}{
			{[]impl.Val{last}, []int{1, 2, 3}, map[int][]int{3: {0}, 2: {0, 0, 0}, 1: {0, 1, 0}}},
			{[]impl.Val{last, ref(impl.TCell, done)}, []int{1, 2, 3}, map[int][]int{3: {0}, 2: {0, 0, 0}, 1: {1, 0}}},
			{[]impl.Val{last, ref(impl.TFun, goal)}, []int{1, 2, 3}, map[int][]int{3: {0}, 2: {0, 0, 0}, 1: {1}}},
			{[]impl.Val{ref(impl.TFun, goal), last}, []int{1}, map[int][]int{3: {1}, 2: {1, 0, 0}, 1: {0}}},
		} {
			a.Roots = x.roots
			checkImage(t, "by the copy", a)
			checkNumbers(t, "by the copy: Kin", a, func(a impl.Arena) []int { return impl.Kin(a, 0) }, x.kin)
			checkKins(t, "by the copy", a)
			for b := a; b.Cycle; b, _ = impl.CopyStep(b, 1) {
				for serial := range 6 {
					checkNumbers(t, fmt.Sprint("by the copy: Way ", serial), b, wayTo(t, serial), x.ways[serial])
				}
			}
		}
	}
}

// A copy that was changed behind its copying leads where it leads now.
func TestKinAndWaysOfWhatWasChangedInACycle(t *testing.T) {
	for to := range 2 {
		f := newFamily(400, to)
		one, two := f.fun(), f.fun()
		box := f.box(one)
		a := flippedOf(f.arena(f.box(box), box, two))
		if !a.Cycle || a.To == to {
			t.Fatal("not what is to be tested")
		}
		checkNumbers(t, "ahead", a, wayTo(t, 1), []int{1, 0})
		a, ok := impl.SetCell(a, 1, 2)
		if !ok {
			t.Fatal("not set")
		}
		a, _ = impl.SetRoot(a, 1, num(0))
		a, _ = impl.SetRoot(a, 2, num(0))
		inAllStages(a, func(stage string, a impl.Arena) {
			checkNumbers(t, stage, a, wayTo(t, 2), []int{0, 0, 0})
			checkNumbers(t, stage, a, wayTo(t, 1), nil)
			checkNumbers(t, stage, a, func(a impl.Arena) []int { return impl.Kin(a, 0) }, []int{2})
			checkKins(t, stage, a)
		})
	}
}

// As long a way as there may be.
func TestTheLongestWay(t *testing.T) {
	for to := range 2 {
		a := newArena(impl.MaxSemi, to)
		l := &layer{a.Words, a.Top}
		v := ref(impl.TFun, l.fun(1, 0))
		for range 1332 {
			v = ref(impl.TCell, l.cell(v))
		}
		a.Top, a.Serial, a.Roots = l.at, 2, []impl.Val{num(1), v}
		want := make([]int, 1333)
		want[0] = 1
		for _, b := range []impl.Arena{a, flippedOf(a)} {
			checkNumbers(t, "the longest way", b, wayTo(t, 1), want)
			checkNumbers(t, "its kin", b, func(a impl.Arena) []int { return impl.Kin(a, 1) }, []int{1})
		}
	}
}
