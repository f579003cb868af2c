package tests

import (
	"fmt"
	"slices"
	"testing"

	"loop.example/g00101/impl"
)

// laden has just so many words in use, of which just so many can be reached: a chain of boxes and what makes up the number, each in a Root.
func laden(semi int, to int, inUse int, reach int) impl.Arena {
	a := newArena(semi, to)
	l := &layer{a.Words, a.Top}
	last := impl.Val{}
	a.Roots = make([]impl.Val, 6)
	fill := func(n int, keep func(impl.Val)) {
		for ; n > 4 || n == 3; n -= 3 {
			last = ref(impl.TCell, l.cell(last))
		}
		switch n {
		case 2:
			a.Serial++
			keep(ref(impl.TFun, l.fun(a.Serial-1, 9)))
		case 4:
			keep(ref(impl.TStr, l.text("sixteen bytes ..")))
		case 1:
			panic("one word is no object")
		}
	}
	fill(reach, func(v impl.Val) { a.Roots[1] = v })
	a.Roots[0] = last
	last = num(0)
	fill(inUse-reach, func(impl.Val) {})
	a.Top = l.at
	if a.Top != to*semi+1+inUse || !impl.ArenaOk(a) || impl.Reached(a) != reach {
		panic(fmt.Sprint("not laden as asked for: ", a.Top, impl.Reached(a)))
	}
	return a
}

// Just half of Semi - 1 words in use: nothing is flipped; with one more it is, and two objects are gone over.
func TestHalfIsInUse(t *testing.T) {
	for to := range 2 {
		for _, semi := range []int{impl.MinSemi, impl.MinSemi + 1, 301, impl.MaxSemi - 1, impl.MaxSemi} {
			for inUse := (semi-1)/2 - 2; inUse <= (semi-1)/2+2; inUse++ {
				a := laden(semi, to, inUse, inUse)
				out, code := impl.NewCell(a, 0, 2)
				flips := 2*inUse > semi-1
				if code != impl.Done || out.Cycle != flips || (out.To != to) != flips {
					t.Fatalf("Semi %d, %d in use: %d, Cycle %v", semi, inUse, code, out.Cycle)
				}
				if !flips && (out.Top != a.Top+3 || out.Roots[0] != a.Roots[0]) {
					t.Errorf("Semi %d, %d in use: Top goes from %d to %d", semi, inUse, a.Top, out.Top)
				}
				want, _ := impl.Flip(a)
				want, gone := impl.CopyStep(want, impl.Pace)
				if flips && (out.Scan != want.Scan || out.Top != want.Top+3 || out.Copied != want.Copied || gone != 2) {
					t.Errorf("Semi %d, %d in use: at %v, want %v", semi, inUse, standOf(out), standOf(want))
				}
			}
		}
	}
}

// With a Cycle two objects are gone over at each call, however much is in use; the Cycle that is over by that is not followed by another one at once.
func TestPaceWhileACycleRuns(t *testing.T) {
	for to := range 2 {
		for _, boxes := range []int{10, 43} {
			a, _ := impl.Flip(chain(300, to, boxes))
			for n := 1; a.Cycle; n++ {
				begin := a.To*a.Semi + 1
				next, code := impl.NewCell(a, 0, 0) // it is gone over later, as all others
				if code != impl.Done || next.To != a.To {
					t.Fatalf("%d boxes, call %d: %d, half %d", boxes, n, code, next.To)
				}
				if next.Cycle && next.Scan != begin+3*2*n {
					t.Fatalf("%d boxes, call %d: Scan is %d, want %d", boxes, n, next.Scan, begin+6*n)
				}
				want, _ := impl.CopyStep(a, 2)
				if next.Top != want.Top+3 || next.Cycle != want.Cycle || next.Copied != want.Copied {
					t.Fatalf("%d boxes, call %d: at %v, want %v", boxes, n, standOf(next), standOf(want))
				}
				a = next
			}
			if used := a.Top - (a.To*a.Semi + 1); boxes == 43 && 2*used <= a.Semi-1 {
				t.Error("the cycle was over with less than half in use:", used)
			}
			next, _ := impl.NewCell(a, 0, 0)
			if next.To != a.To && boxes == 10 || next.To == a.To && boxes == 43 {
				t.Errorf("%d boxes: half %d behind the cycle, then %d", boxes, a.To, next.To)
			}
		}
	}
}

// A Cycle that has nothing left to go over is over ahead of the first step.
func TestAskedAtTheEndOfACycle(t *testing.T) {
	for to := range 2 {
		a := chain(300, to, 4)
		a.Cycle, a.Scan, a.Old = true, a.Top, (1-to)*300+1
		out, code := impl.NewCell(a, 0, 0)
		if code != impl.Done || out.Cycle || out.To != to || out.Top != a.Top+3 || out.Scan != 0 {
			t.Error("the Cycle is", out.Cycle, "half", out.To, code)
		}
	}
}

// Free just as great as what is asked for: no collection, the Cycle goes on; one less: a collection, which finds what is garbage, or NoMem.
func TestFreeIsMet(t *testing.T) {
	const semi = 300
	for to := range 2 {
		for cells := range impl.MaxUps + 1 {
			n := 2 + 2*cells
			// ahead: what is free ahead of a collection; behind: what is free behind it.
			for _, x := range []struct{ ahead, behind, code int }{
				{n, n, impl.Done}, {n, n + 30, impl.Done}, {n + 2, n + 2, impl.Done},
				{n - 1, n + 30, impl.Done}, {n - 2, n + 2, impl.Done}, {n - 2, n, impl.Done}, {n - 3, n, impl.Done}, {0, n, impl.Done},
				{n - 1, n - 1, impl.NoMem}, {n - 3, n - 1, impl.NoMem}, {n - 2, n - 2, impl.NoMem}, {0, 0, impl.NoMem},
			} {
				if x.ahead < 0 {
					continue
				}
				a := laden(semi, to, semi-1-x.ahead, semi-1-x.behind)
				collects := x.ahead < n
				for name, in := range map[string]impl.Arena{"still": a, "begun": flippedOf(a)} {
					if name == "begun" && collects {
						in, _ = impl.CopyStep(in, 3)
					}
					out, code := impl.NewFun(in, 200, slices.Repeat([]int{0}, cells), 2)
					if code != x.code || out.Cycle == collects || !impl.ArenaOk(out) {
						t.Fatalf("%s, %d asked for, %+v: %d, Cycle %v", name, n, x, code, out.Cycle)
					}
					if code == impl.NoMem {
						want, _ := impl.Collect(steppedAhead(in))
						if !sameArena(out, want) {
							t.Errorf("%s, %d asked for, %+v: it is not as it is behind the collection", name, n, x)
						}
						checkStays(t, name, out, taleOf(in))
						checkJust(t, name, out)
						continue
					}
					if collects && impl.Free(out) != x.behind-n || !collects && impl.Free(out) != x.ahead-n {
						t.Errorf("%s, %d asked for, %+v: %d are free then", name, n, x, impl.Free(out))
					}
				}
			}
		}
	}
}

func flippedOf(a impl.Arena) impl.Arena {
	a, _ = impl.Flip(a)
	return a
}

// steppedAhead is an arena behind the steps that are taken ahead of a collection.
func steppedAhead(a impl.Arena) impl.Arena {
	if !a.Cycle {
		a = flippedOf(a)
	}
	a, _ = impl.CopyStep(a, impl.Pace)
	return a
}

// A chain of boxes grows until room lacks: just when the half has no three words more; then it stays as it is.
func TestRoomLacks(t *testing.T) {
	for to := range 2 {
		for _, semi := range []int{256, 257, 258, 300} {
			a := newArena(semi, to)
			a.Roots = make([]impl.Val, 2)
			boxes := (semi - 1) / 3
			for n := range boxes {
				var code int
				if a, code = impl.NewCell(a, 0, 0); code != impl.Done || impl.Reached(a) != 3*(n+1) || !impl.ArenaOk(a) {
					t.Fatalf("Semi %d: box %d is %d", semi, n, code)
				}
			}
			said := taleOf(a)
			for range 3 {
				var code int
				a, code = impl.NewCell(a, 0, 1)
				if code != impl.NoMem || a.Roots[1] != (impl.Val{}) {
					t.Fatalf("Semi %d: a box more is %d, %v", semi, code, a.Roots)
				}
				checkStays(t, "no room", a, said)
			}
			out, code := impl.NewFun(a, 0, nil, 1) // two words may be left
			if want := semi-1-3*boxes >= 2; (code == impl.Done) != want {
				t.Errorf("Semi %d: a function without boxes is %d", semi, code)
			}
			checkJust(t, "no room", a)
			out, _ = impl.Load(a, 0, 0, 0) // one box less
			if out, code = impl.NewCell(out, 0, 1); code != impl.Done || impl.Reached(out) != 3*boxes {
				t.Errorf("Semi %d: a box in the room of another one is %d", semi, code)
			}
		}
	}
}

// A step of copying that is taken ahead changes nothing of what is told.
func TestStepsAheadOfAsking(t *testing.T) {
	for to := range 2 {
		for reach := 240; reach <= 255; reach++ {
			if reach == 254 {
				continue // garbage of one word is none
			}
			a := laden(impl.MinSemi, to, 255, reach)
			for steps := range 90 {
				b, _ := impl.Flip(a)
				b, _ = impl.CopyStep(b, steps)
				out, code := impl.NewCell(b, 0, 0)
				if (code == impl.NoMem) != (reach+3 > 255) || !impl.ArenaOk(out) {
					t.Fatalf("%d reached, %d steps: %d", reach, steps, code)
				}
			}
		}
	}
}

// What stands in the slots of a box and a function while a Cycle runs: forwarded already, not forwarded, no reference.
func TestLoadForwards(t *testing.T) {
	for to := range 2 {
		a := newArena(300, to)
		l := &layer{a.Words, to*300 + 1}
		o := &layer{a.Words, (1-to)*300 + 1}
		done := l.text("copied")
		moved := o.forward(done, 2)
		left := o.text("not copied")
		inner := o.cell(ref(impl.TStr, left))
		ahead := l.cell(ref(impl.TStr, moved))
		behind := l.cell(ref(impl.TStr, left))
		number := l.cell(num(left))
		inUse := l.cell(ref(impl.TStr, done))
		fun := l.fun(1, 0, ref(impl.TCell, inner), ref(impl.TCell, ahead), ref(impl.TCell, inner))
		a.Top, a.Serial, a.Cycle, a.Scan, a.Old, a.Copied = l.at, 2, true, to*300+1, o.at, 3
		a.Roots = []impl.Val{ref(impl.TCell, ahead), ref(impl.TCell, behind), ref(impl.TCell, number), ref(impl.TCell, inUse), ref(impl.TFun, fun), {}}
		if !impl.ArenaOk(a) {
			t.Fatal("not right")
		}
		cases := []struct {
			name    string
			r, slot int
			want    impl.Val
			words   int // how many words more are copied
		}{
			{"forwarded already", 0, 0, ref(impl.TStr, done), 0},
			{"not forwarded", 1, 0, ref(impl.TStr, a.Top), 4},
			{"no reference", 2, 0, num(left), 0},
			{"in the half in use", 3, 0, ref(impl.TStr, done), 0},
			{"the first slot", 4, 0, ref(impl.TCell, a.Top), 3},
			{"one in the half in use", 4, 1, ref(impl.TCell, ahead), 0},
			{"the last slot", 4, 2, ref(impl.TCell, a.Top), 3},
		}
		for _, c := range cases {
			in := roomy(a)
			was := allOf(in)
			out, ok := impl.Load(in, c.r, c.slot, 5)
			object := a.Roots[c.r].N
			if !ok || out.Roots[5] != c.want || slotOf(out, object, c.slot) != c.want {
				t.Errorf("%s: %v, the slot is %v, want %v", c.name, out.Roots[5], slotOf(out, object, c.slot), c.want)
			}
			if out.Top != a.Top+c.words || out.Copied != a.Copied+c.words || out.Scan != a.Scan || !out.Cycle {
				t.Errorf("%s: at %v, was at %v", c.name, standOf(out), standOf(a))
			}
			if !impl.ArenaOk(out) || !slices.Equal(out.Roots[:5], a.Roots[:5]) {
				t.Errorf("%s: not right, or other Roots: %v", c.name, out.Roots)
			}
			again, ok := impl.Load(out, c.r, c.slot, 5)
			if !ok || !sameArena(again, out) {
				t.Errorf("%s: loaded once more it is another one", c.name)
			}
			checkOwn(t, out, whole(in), was)
		}
		// Only the slot that is loaded is forwarded.
		out, _ := impl.Load(a, 4, 0, 5)
		if slotOf(out, fun, 2) != ref(impl.TCell, inner) || slotOf(out, ahead, 0) != ref(impl.TStr, moved) {
			t.Error("another slot was forwarded, too")
		}
		if w, ok := impl.Forwarded(out.Words[inner]); !ok || w != a.Top {
			t.Error("the box that was left does not lead to its copy")
		}
		if slotOf(out, a.Top, 0) != ref(impl.TStr, left) {
			t.Error("what the box has was forwarded, too")
		}
	}
}

// Without a Cycle a load leaves all words as they are.
func TestLoadWithoutACycle(t *testing.T) {
	for to := range 2 {
		s := kindsAtHand(300, to)[0]
		for _, name := range []string{"box", "one", "twelve", "co"} {
			places := slotsThere(s.Arena, s.at[name])
			for slot, place := range places {
				out, ok := impl.Load(s.Arena, s.at[name], slot, s.at["nil"])
				want := s.twin().Arena
				want.Roots[s.at["nil"]], _ = impl.GetVal(s.Words, place)
				if !ok || !sameArena(out, want) {
					t.Fatalf("slot %d of %s is %v", slot, name, out.Roots[s.at["nil"]])
				}
			}
		}
	}
}

// SetCell lays any value into a box, forwards nothing and takes no step.
func TestSetCellTakesNoStep(t *testing.T) {
	for to := range 2 {
		for stage, s := range kindsAtHand(300, to) {
			box := s.at["box"]
			for name, r := range s.at {
				out, ok := impl.SetCell(s.Arena, box, r)
				want := s.twin().Arena
				copy(want.Words[want.Roots[box].N+1:], pairs(want.Roots[r]))
				if !ok || !sameArena(out, want) || !impl.ArenaOk(out) {
					t.Errorf("stage %d: a box set to %s", stage, name)
				}
				got, ok := impl.Load(out, box, 0, s.at["nil"])
				if !ok || got.Roots[s.at["nil"]] != s.Roots[r] {
					t.Errorf("stage %d: a box set to %s has %v", stage, name, got.Roots[s.at["nil"]])
				}
			}
		}
	}
}
