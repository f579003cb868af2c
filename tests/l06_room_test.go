package tests

import (
	"fmt"
	"slices"
	"testing"

	"loop.example/g00101/impl"
)

// blockWords is how many words a block of that capacity takes, with its head.
func blockWords(capacity int) int { return 1 + 4*capacity }

// ladenTable is laden with a table behind all else, in the Root 2, whose block of that capacity (0 for none) is full of numbers from 0 on; the Roots 3 and 4 are a new key and its value. The table and its block are counted in.
func ladenTable(semi int, to int, inUse int, reach int, capacity int) impl.Arena {
	words, used := 4, capacity/4*3
	if capacity > 0 {
		words += blockWords(capacity)
	}
	a := laden(semi, to, inUse-words, reach-words)
	l := &layer{a.Words, a.Top}
	slot := impl.Val{}
	if capacity > 0 {
		var entries []entry
		for n := range used {
			entries = append(entries, entry{n, num(n), num(10 * n)})
		}
		slot = ref(impl.TBlk, l.block(capacity, entries...))
	}
	a.Roots[2], a.Roots[3], a.Roots[4] = ref(impl.TTab, l.table(a.Serial, used, slot)), num(used), yes()
	a.Serial++
	a.Top = l.at
	if a.Top != to*semi+1+inUse || !impl.ArenaOk(a) || impl.Reached(a) != reach {
		panic(fmt.Sprint("not laden as asked for: ", a.Top, impl.Reached(a)))
	}
	return a
}

// pressedRooms are those that laden can make around the room that n words need.
func pressedRooms(n int) []room {
	return slices.DeleteFunc(roomsFor(n), func(x room) bool {
		return x.behind-x.ahead == 1 || x.ahead < 0 || x.behind < x.ahead // garbage of one word is none
	})
}

// checkPressed: a call that asks for n words where there is that room, without a Cycle and with one that has begun; made holds what is so behind it against what was.
func checkPressed(t *testing.T, a impl.Arena, n int, x room, call func(in impl.Arena) (impl.Arena, int), loads bool, made func(in impl.Arena, out impl.Arena)) {
	t.Helper()
	collects := x.ahead < n
	for name, in := range map[string]impl.Arena{"still": a, "begun": flippedOf(a)} {
		if name == "begun" && collects {
			in, _ = impl.CopyStep(in, 3)
		}
		out, code := call(in)
		if code != x.code || out.Cycle == collects || !impl.ArenaOk(out) {
			t.Fatalf("%s, %d asked for, %+v: %d, Cycle %v", name, n, x, code, out.Cycle)
		}
		if code == impl.NoMem {
			by := in
			if loads {
				by = loadedTable(in, 2)
			}
			want, _ := impl.Collect(steppedAhead(by))
			if !sameArena(out, want) {
				t.Errorf("%s, %d asked for, %+v: it is not as it is behind the collection", name, n, x)
			}
			checkStays(t, name, out, taleOf(in))
			checkJust(t, name, out)
			continue
		}
		if collects && impl.Free(out) != x.behind-n || !collects && impl.Free(out) != x.ahead-n {
			t.Errorf("%s, %d asked for, %+v: %d are free then", name, n, x, impl.Free(out))
		}
		made(in, out)
	}
}

// Free just as great as what is asked for: no collection, the Cycle goes on; one less: a collection, which finds what is garbage, or NoMem, which leaves the table as it was.
func TestFreeIsMetByBlocks(t *testing.T) {
	const semi = 700
	for to := range 2 {
		for i, capacity := range capacities() {
			old := 0
			if i > 0 {
				old = capacities()[i-1]
			}
			n := blockWords(capacity)
			for _, x := range pressedRooms(n) {
				a := ladenTable(semi, to, semi-1-x.ahead, semi-1-x.behind, old)
				set := func(in impl.Arena) (impl.Arena, int) { return impl.SetKey(in, 2, 3, 4) }
				checkPressed(t, a, n, x, set, true, func(in impl.Arena, out impl.Arena) {
					got, used := impl.Capacity(out, 2)
					if got != capacity || used != old/4*3+1 {
						t.Errorf("%d asked for, %+v: the capacity is %d, %d", n, x, got, used)
					}
					want := contents(t, in, 2)
					want[tell(in, 3)] = tell(in, 4)
					if got := contents(t, out, 2); fmt.Sprint(got) != fmt.Sprint(want) {
						t.Errorf("%d asked for, %+v: the table has %v, want %v", n, x, got, want)
					}
				})
			}
		}
	}
}

func TestFreeIsMetByTables(t *testing.T) {
	const semi = 300
	for to := range 2 {
		for _, x := range pressedRooms(4) {
			a := laden(semi, to, semi-1-x.ahead, semi-1-x.behind)
			call := func(in impl.Arena) (impl.Arena, int) { return impl.NewTab(in, 5) }
			checkPressed(t, a, 4, x, call, false, func(in impl.Arena, out impl.Arena) {
				if impl.SerialOf(out, 5) != in.Serial || out.Roots[5].Tag != impl.TTab || out.Serial != in.Serial+1 {
					t.Errorf("%+v: the table is %v", x, out.Roots[5])
				}
			})
		}
	}
}

// What needs no new block asks for none: in a full half keys are set, got and told, and no step is taken.
func TestSetWithoutAsking(t *testing.T) {
	for to := range 2 {
		a := ladenTable(300, to, 299, 299, 8) // the keys 0 to 5
		for _, in := range []impl.Arena{a, flippedOf(a)} {
			loaded := loadedTable(in, 2)
			set := func(key int, value impl.Val) (impl.Arena, impl.Arena, int) {
				x, _ := impl.SetRoot(in, 3, num(key))
				x, _ = impl.SetRoot(x, 4, value)
				y, _ := impl.SetRoot(loaded, 3, num(key))
				y, _ = impl.SetRoot(y, 4, value)
				out, code := impl.SetKey(x, 2, 3, 4)
				return out, y, code
			}
			for key := range 6 {
				out, want, code := set(key, yes())
				copy(want.Words[slotOf(want, want.Roots[2].N, 0).N+3+4*key:], pairs(yes()))
				if code != impl.Done || !sameArena(out, want) {
					t.Errorf("the key %d is set as %d, or more than that", key, code)
				}
				out, want, code = set(key, impl.Val{})
				copy(want.Words[slotOf(want, want.Roots[2].N, 0).N+3+4*key:], pairs(impl.Val{}))
				if code != impl.Done || !sameArena(out, want) {
					t.Errorf("the key %d is set to nothing as %d, or more than that", key, code)
				}
			}
			out, want, code := set(6, impl.Val{})
			if code != impl.Done || !sameArena(out, want) {
				t.Errorf("a key that is not there is set to nothing as %d, or more than that", code)
			}
			out, _, code = set(6, yes())
			if code != impl.NoMem {
				t.Errorf("a key more is %d", code)
			}
			checkStays(t, "no room", out, taleOf(mustSet(in, 3, num(6), 4, yes())))
		}
		// There is room for a key in the block still, though none for a new one.
		b := ladenTable(300, to, 299, 299, 8)
		b, _ = impl.SetRoot(b, 3, num(6))
		b.Words[b.Roots[2].N+1] = 5
		block := slotOf(b, b.Roots[2].N, 0).N
		copy(b.Words[block+1+4*5:], pairs(impl.Val{}, impl.Val{}))
		out, code := impl.SetKey(b, 2, 3, 4)
		if n, m := impl.Capacity(out, 2); code != impl.Done || n != 8 || m != 6 || out.Top != b.Top || out.To != to {
			t.Errorf("a sixth key is %d, the capacity %d, %d", code, n, m)
		}
	}
}

// mustSet is an arena with two Roots that are no references.
func mustSet(a impl.Arena, r int, v impl.Val, s int, w impl.Val) impl.Arena {
	a, one := impl.SetRoot(a, r, v)
	a, two := impl.SetRoot(a, s, w)
	if !one || !two {
		panic("the Roots can't be set")
	}
	return a
}

// A block of 64 entries is more than the least half has: NoMem, and but for the loaded slot the arena is as it was; no step is taken.
func TestBlockThatNoHalfHas(t *testing.T) {
	for to := range 2 {
		for _, semi := range []int{256, 257, 258, 300, 390, 391} {
			made := func(semi int, to int) impl.Arena {
				l := numbered(semi, to)
				for n := range 24 {
					l.number(t, "set", 0, n, n)
				}
				a, _ := impl.SetRoot(l.Arena, 1, num(24))
				a, _ = impl.Collect(a)
				if a.To != to { // it is to begin in that half
					a, _ = impl.Collect(a)
				}
				return a
			}
			for stage, a := range stages(made, semi, to) {
				out, code := impl.SetKey(a, 0, 1, 1)
				if want := 4 + 129 + 257; (code == impl.Done) != (semi-1 >= want) || code == impl.Bad {
					t.Fatalf("Semi %d, %s: %d", semi, stage, code)
				}
				if code == impl.Done {
					continue
				}
				if semi <= 257 && !sameArena(out, loadedTable(a, 0)) {
					t.Errorf("Semi %d, %s: the arena is another one", semi, stage)
				}
				checkStays(t, "no room", out, taleOf(a))
				if n, m := impl.Capacity(out, 0); n != 32 || m != 24 {
					t.Errorf("Semi %d, %s: the capacity is %d, %d", semi, stage, n, m)
				}
			}
		}
	}
}

// A step of copying that is taken ahead changes nothing of when room lacks, and of what the table has then.
func TestStepsAheadOfBlocks(t *testing.T) {
	for to := range 2 {
		for reach := 215; reach <= 230; reach++ {
			a := ladenTable(impl.MinSemi, to, 255, reach, 4)
			for steps := range 80 {
				b, _ := impl.CopyStep(flippedOf(a), steps)
				out, code := impl.SetKey(b, 2, 3, 4) // 33 words
				if (code == impl.NoMem) != (reach+33 > 255) || !impl.ArenaOk(out) {
					t.Fatalf("%d reached, %d steps: %d", reach, steps, code)
				}
				capacity, used := 8, 4
				if code == impl.NoMem {
					capacity, used = 4, 3
				}
				if n, m := impl.Capacity(out, 2); n != capacity || m != used {
					t.Fatalf("%d reached, %d steps: the capacity is %d, %d", reach, steps, n, m)
				}
			}
		}
	}
}

// Just half of Semi - 1 words in use: nothing is flipped; with one more it is, and two objects are gone over.
func TestTablesFlipAtTheHalf(t *testing.T) {
	for to := range 2 {
		for _, semi := range []int{impl.MinSemi, impl.MinSemi + 1, impl.MaxSemi} {
			for inUse := (semi-1)/2 - 2; inUse <= (semi-1)/2+2; inUse++ {
				a := ladenTable(semi, to, inUse, inUse, 4)
				want := a
				if 2*inUse > semi-1 {
					want = steppedAhead(a)
				}
				for n, call := range map[int]func() (impl.Arena, int){
					4:  func() (impl.Arena, int) { return impl.NewTab(a, 5) },
					33: func() (impl.Arena, int) { return impl.SetKey(a, 2, 3, 4) },
				} {
					out, code := call()
					if code != impl.Done || out.To != want.To || out.Top != want.Top+n || out.Scan != want.Scan || out.Copied != want.Copied {
						t.Fatalf("Semi %d, %d in use: %d, at %v, want %v", semi, inUse, code, standOf(out), standOf(want))
					}
				}
			}
		}
	}
}
