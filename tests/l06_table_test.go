package tests

import (
	"fmt"
	"math"
	"slices"
	"testing"

	"loop.example/g00101/impl"
)

// cabinet has a table without a block in the Root 0, in those behind it keys of each kind (a text twice, at two places), and then Roots that are nothing.
func cabinet(semi int, to int) impl.Arena {
	a := dirty(semi, to, 0)
	l := &layer{a.Words, a.Top}
	tab := ref(impl.TTab, l.table(1, 0, impl.Val{}))
	l.text("garbage that is left behind")
	a.Roots = append(a.Roots, tab, impl.Val{Tag: impl.TBool}, yes(), num(0), num(1), num(-1), num(math.MinInt), num(math.MaxInt))
	a.Roots = append(a.Roots, impl.Val{Tag: impl.TLib, N: 1}, impl.Val{Tag: impl.TLib, N: 20})
	for _, s := range []string{"", "a", "a", motley(20, 0xf0)} {
		a.Roots = append(a.Roots, ref(impl.TStr, l.text(s)))
	}
	box := ref(impl.TCell, l.cell(num(5)))
	a.Roots = append(a.Roots, ref(impl.TTab, l.table(2, 0, impl.Val{})), ref(impl.TFun, l.fun(3, 9, box)), ref(impl.TCo, l.co(4, [4]uint64{}, impl.Val{})))
	a.Top, a.Serial = l.at, 5
	a.Roots = append(a.Roots, make([]impl.Val, impl.MaxRoots-len(a.Roots))...)
	return a
}

// cabinetKeys is behind the last Root of cabinet that is a key; the Roots 11 and 12 are one.
const cabinetKeys = 17

// Keys of each kind are set, got, gone through and set to nothing, in either half, in each stage of a cycle, with flips, steps and collections between.
func TestTablesInEachStage(t *testing.T) {
	t.Parallel()
	for to := range 2 {
		for stage, a := range stages(cabinet, 700, to) {
			for _, between := range betweens() {
				name := fmt.Sprintf("half %d, %s, %s between", to, stage, between.name)
				l := ledgerOf(a)
				write := func(key int, from int) {
					if l.set(t, name, 0, key, from) != impl.Done {
						t.Fatal(name, "is not done")
					}
					l.Arena = between.do(l.Arena)
					l.get(t, name, 0, key)
					l.Arena = between.do(l.Arena)
				}
				l.check(t, name, 0)
				for key := range cabinetKeys {
					write(key, (key*5+3)%cabinetKeys)
				}
				l.walk(t, name, 0, between)
				for key := 0; key < cabinetKeys; key += 3 {
					write(key, l.none())
				}
				l.walk(t, name, 0, between)
				for key := 0; key < cabinetKeys; key += 2 {
					write(key, 0)
				}
				l.walk(t, name, 0, between)
				for key := range cabinetKeys {
					l.get(t, name, 0, key)
				}
			}
		}
	}
}

// Each key alone in a table: it is told where its hash says, and no other key has its value.
func TestKeysOfEachKind(t *testing.T) {
	for to := range 2 {
		for stage, a := range stages(cabinet, 700, to) {
			for key := range cabinetKeys {
				l := ledgerOf(a)
				name := fmt.Sprintf("half %d, %s, the Root %d", to, stage, key)
				l.set(t, name, 0, key, 16)
				for other := range cabinetKeys {
					l.get(t, name, 0, other)
				}
				block := slotOf(l.Arena, l.Roots[0].N, 0).N
				place := block + 1 + 4*(thingOf(a, key).hash()%4)
				if v, _ := impl.GetVal(l.Words, place); v != l.Roots[key] {
					t.Errorf("%s: the key is not where its hash says, but %v", name, v)
				}
			}
		}
	}
}

// Texts of the same bytes at two places are one key: the value is set anew, and the key that stands there stays.
func TestTextsAreOneKey(t *testing.T) {
	const one, two = 11, 12
	for to := range 2 {
		for stage, a := range stages(cabinet, 700, to) {
			for _, between := range betweens() {
				l := ledgerOf(a)
				name := fmt.Sprintf("half %d, %s, %s between", to, stage, between.name)
				l.set(t, name, 0, one, 3)
				l.Arena = between.do(l.Arena)
				l.set(t, name, 0, two, 4)
				l.Arena = between.do(l.Arena)
				if n, m := impl.Capacity(l.Arena, 0); n != 4 || m != 1 || l.Roots[one] == l.Roots[two] {
					t.Fatalf("%s: the capacity is %d, %d", name, n, m)
				}
				l.get(t, name, 0, one)
				l.get(t, name, 0, two)
				if out, ok := impl.NextKey(l.Arena, 0, two, 20, 21); !ok || out.Roots[20] != (impl.Val{}) {
					t.Errorf("%s: behind the only key comes %v, %v", name, out.Roots[20], ok)
				}
				out, _ := impl.NextKey(l.Arena, 0, l.none(), 20, 21)
				if out.Roots[20] != out.Roots[one] || out.Roots[21] != num(1) {
					t.Errorf("%s: the key that was there first is another one, %v", name, out.Roots)
				}
			}
		}
	}
}

// A table that is its own key and its own value.
func TestTableInItself(t *testing.T) {
	for to := range 2 {
		for stage, a := range stages(cabinet, 700, to) {
			for _, between := range betweens() {
				l := ledgerOf(a)
				name := fmt.Sprintf("half %d, %s, %s between", to, stage, between.name)
				l.set(t, name, 0, 0, 0)
				l.Arena = between.do(l.Arena)
				l.walk(t, name, 0, between)
				got, ok := impl.GetKey(l.Arena, 0, 0, 20)
				if !ok || got.Roots[20] != got.Roots[0] {
					t.Fatalf("%s: with itself is got %v", name, got.Roots[20])
				}
				next, ok := impl.NextKey(l.Arena, 0, 20, 20, 21)
				if !ok || next.Roots[20] != next.Roots[0] || next.Roots[21] != next.Roots[0] {
					t.Fatalf("%s: it has %v, %v", name, next.Roots[20], next.Roots[21])
				}
				l.number(t, name, 0, 1, 9) // the serial of the table is 1, too
				l.set(t, name, 0, 0, l.none())
				l.get(t, name, 0, 0)
			}
		}
	}
}

// What a new table and its first keys are in words, by hand; words around them are not written.
func TestTableByHand(t *testing.T) {
	for to := range 2 {
		a := newArena(300, to)
		a.Roots = []impl.Val{num(6), yes(), num(2), {}, {}}
		begin := to*300 + 1
		a, code := impl.NewTab(a, 3)
		if code != impl.Done || a.Roots[3] != ref(impl.TTab, begin) || a.Top != begin+4 || a.Serial != 2 {
			t.Fatal("a table", code, a.Roots, a.Top)
		}
		head := packed(impl.Head{Kind: impl.KTab, Size: 3, Serial: 1})
		if !slices.Equal(a.Words[begin-1:a.Top+1], []uint64{0xF00D, head, 0, 0, 0, 0xF00D}) {
			t.Errorf("a new table is %x", a.Words[begin:a.Top])
		}
		a, code = impl.SetKey(a, 3, 0, 1) // the first key of all
		if code != impl.Done || a.Top != begin+21 || a.Serial != 2 {
			t.Fatal("the first key", code, a.Top)
		}
		a, code = impl.SetKey(a, 3, 2, 3) // 6 has the entry 2 already
		if code != impl.Done || a.Top != begin+21 {
			t.Fatal("the second key", code, a.Top)
		}
		want := slices.Concat([]uint64{0xF00D, head, 2}, pairs(ref(impl.TBlk, begin+4)), []uint64{packed(impl.Head{Kind: impl.KBlk, Size: 16})},
			pairs(impl.Val{}, impl.Val{}, impl.Val{}, impl.Val{}, num(6), yes(), num(2), ref(impl.TTab, begin)), []uint64{0xF00D})
		if !slices.Equal(a.Words[begin-1:a.Top+1], want) {
			t.Errorf("half %d: the words are %x, want %x", to, a.Words[begin-1:a.Top+1], want)
		}
		if !impl.ArenaOk(a) {
			t.Error("it is not right")
		}
	}
}

// A table without a block has no keys, and needs no block for nothing.
func TestTableWithoutABlock(t *testing.T) {
	for to := range 2 {
		for stage, a := range stages(cabinet, 700, to) {
			for key := range cabinetKeys {
				out, ok := impl.GetKey(a, 0, key, 9)
				want, _ := impl.SetRoot(a, 9, impl.Val{})
				if !ok || !sameArena(out, want) {
					t.Errorf("%s: with the Root %d is got %v, %v", stage, key, out.Roots[9], ok)
				}
				if out, code := impl.SetKey(a, 0, key, 20); code != impl.Done || !sameArena(out, a) {
					t.Errorf("%s: nothing is set to nothing: %d", stage, code)
				}
				if out, ok := impl.NextKey(a, 0, key, 20, 21); ok || !sameArena(out, a) {
					t.Errorf("%s: NextKey behind a key that is not there", stage)
				}
			}
			out, ok := impl.NextKey(a, 0, 20, 3, 4)
			if !ok || out.Roots[3] != (impl.Val{}) || out.Roots[4] != (impl.Val{}) {
				t.Errorf("%s: the first key is %v, %v", stage, out.Roots[3], ok)
			}
			if n, m := impl.Capacity(a, 0); n != 0 || m != 0 || impl.Border(a, 0) != 0 {
				t.Errorf("%s: the capacity is %d, %d", stage, n, m)
			}
		}
	}
}

// numbered is a ledger with an empty table in the Root 0.
func numbered(semi int, to int) *ledger {
	a, _ := impl.NewTab(dirty(semi, to, 8), 0)
	return ledgerOf(a)
}

// numbersOf are the keys of a table that are numbers, as they come.
func numbersOf(t *testing.T, l *ledger, r int) []int {
	t.Helper()
	l.check(t, "told", r)
	keys, _ := l.book(r).list()
	var list []int
	for _, k := range keys {
		list = append(list, k.n)
	}
	return list
}

// Keys of one hash, of hashes with one remainder, and at the end of the block, where the search goes on with the first entry.
func TestKeysThatWantOneEntry(t *testing.T) {
	const m = 1000003
	cases := []struct {
		name string
		set  []int
		want []int
	}{
		{"one hash", []int{5, 5 + m, 5 + 2*m}, []int{5, 5 + m, 5 + 2*m}},
		{"one hash, the other way round", []int{5 + 2*m, 5 + m, 5}, []int{5 + 2*m, 5 + m, 5}},
		{"one remainder", []int{9, 1, 5}, []int{9, 1, 5}},
		{"behind the last entry", []int{3, 7, 11}, []int{7, 11, 3}},
		{"behind the last entry, and another one", []int{7, 3, 0}, []int{3, 0, 7}},
		{"the last but one", []int{2, 6, 10}, []int{10, 2, 6}},
		{"below 0", []int{-1, -2, -3}, []int{-3, -2, -1}}, // 350686, 350685, 350684
		{"the least and the greatest", []int{math.MinInt, math.MaxInt, 0}, []int{math.MaxInt, math.MinInt, 0}},
		{"of one hash, below 0", []int{-1, 350686, 2}, []int{2, -1, 350686}},
		// 15, 23, 7 in a block of 4; 23, 7, 31, 39, 47, 15 in one of 8
		{"seven, in a block of 16", []int{7, 15, 23, 31, 39, 47, 55}, []int{47, 15, 23, 7, 39, 55, 31}},
	}
	for to := range 2 {
		for _, c := range cases {
			l := numbered(300, to)
			for i, n := range c.set {
				if l.number(t, c.name, 0, n, i) != impl.Done {
					t.Fatal(c.name)
				}
			}
			if got := numbersOf(t, l, 0); !slices.Equal(got, c.want) {
				t.Errorf("%s: the keys come as %v, want %v", c.name, got, c.want)
			}
			l.Arena, _ = impl.Collect(l.Arena)
			if got := numbersOf(t, l, 0); !slices.Equal(got, c.want) {
				t.Errorf("%s: behind a collection the keys come as %v", c.name, got)
			}
		}
	}
}

// A key set to nothing: where it has a value, where its entry is dead already, and where there is none.
func TestSetToNothing(t *testing.T) {
	for to := range 2 {
		l := numbered(300, to)
		for _, n := range []int{1, 5, 3} { // the entries 1, 2, 3
			l.number(t, "full", 0, n, 10*n)
		}
		block := slotOf(l.Arena, l.Roots[0].N, 0)
		l.erase(t, "with a value", 0, 5)
		if got := numbersOf(t, l, 0); !slices.Equal(got, []int{1, 3}) {
			t.Error("the keys are", got)
		}
		if v, _ := impl.GetVal(l.Words, block.N+1+8); v != num(5) {
			t.Error("the key of the dead entry is", v)
		}
		was := l.Arena
		l.erase(t, "dead already", 0, 5)
		if !slices.Equal(l.Words, was.Words) || l.Top != was.Top {
			t.Error("a dead entry is set to nothing, and words are others")
		}
		l.erase(t, "not there", 0, 9) // its search goes over the dead one
		l.erase(t, "not there, at an empty entry", 0, 4)
		if !slices.Equal(l.Words, was.Words) || l.Top != was.Top {
			t.Error("a key that is not there is set to nothing, and words are others")
		}
		if n, m := impl.Capacity(l.Arena, 0); n != 4 || m != 3 {
			t.Error("the dead entry does not count", n, m)
		}
		// Set again it takes its own entry, though an empty one is there and no other has room.
		l.number(t, "again", 0, 5, 51)
		if got := numbersOf(t, l, 0); !slices.Equal(got, []int{1, 5, 3}) || slotOf(l.Arena, l.Roots[0].N, 0) != block || l.Top != was.Top {
			t.Error("the dead entry is not taken again", got)
		}
	}
}

// Dead entries count among those that are not empty: a key more wants a new block, in which they are left out.
func TestDeadEntriesAreLeftOut(t *testing.T) {
	for to := range 2 {
		l := numbered(300, to)
		for _, n := range []int{1, 5, 3} {
			l.number(t, "full", 0, n, 10*n)
		}
		block := slotOf(l.Arena, l.Roots[0].N, 0)
		l.erase(t, "dead", 0, 1)
		l.number(t, "one more", 0, 9, 90)
		if got := numbersOf(t, l, 0); !slices.Equal(got, []int{5, 9, 3}) {
			t.Error("the keys are", got) // 5 has the entry 1 now, 9 that behind it
		}
		n, m := impl.Capacity(l.Arena, 0)
		if now := slotOf(l.Arena, l.Roots[0].N, 0); n != 4 || m != 3 || now == block {
			t.Error("the block is the old one, or of another capacity:", n, m, now)
		}
		if out, ok := impl.NextKey(l.Arena, 0, 1, 2, 3); !ok || out.Roots[2] != num(5) {
			t.Error("the first key is", out.Roots[2])
		}
		l.Arena, _ = impl.SetRoot(l.Arena, 1, num(1))
		if _, ok := impl.NextKey(l.Arena, 0, 1, 2, 3); ok {
			t.Error("the key that was dead is there still")
		}
		l.number(t, "what was dead", 0, 1, 11)
		if n, m := impl.Capacity(l.Arena, 0); n != 8 || m != 4 {
			t.Error("a fourth value:", n, m)
		}
	}
}

// leastFor is the capacity that so many keys need, written out.
func leastFor(n int) int {
	switch {
	case n <= 3:
		return 4
	case n <= 6:
		return 8
	case n <= 12:
		return 16
	case n <= 24:
		return 32
	}
	return 64
}

// Of each block that is full any number of entries is dead: the new one is of the same capacity, of a greater or of a smaller one.
func TestCapacityOfANewBlock(t *testing.T) {
	t.Parallel()
	greater, same, smaller := 0, 0, 0
	for i, capacity := range capacities() {
		full := capacity / 4 * 3
		l := numbered(1500, i%2)
		for n := range full {
			l.number(t, "full", 0, 4*n, n)
		}
		for dead := range full + 1 {
			if n, m := impl.Capacity(l.Arena, 0); n != capacity || m != full {
				t.Fatalf("%d dead of %d: the capacity is %d, %d", dead, full, n, m)
			}
			more := l.twin()
			code := more.number(t, fmt.Sprint(dead, " dead of ", full), 0, 1, 1)
			if full == 48 && dead == 0 {
				if code != impl.Bad || len(numbersOf(t, more, 0)) != 48 {
					t.Error("49 keys", code)
				}
			} else if n, m := impl.Capacity(more.Arena, 0); code != impl.Done || m != full-dead+1 || n != leastFor(m) {
				t.Fatalf("%d dead of %d: %d, the capacity is %d, %d", dead, full, code, n, m)
			} else if n > capacity {
				greater++
			} else if n == capacity {
				same++
			} else {
				smaller++
			}
			l.erase(t, "dead", 0, 4*((dead*5+i)%full)) // 5 goes over all of them; behind the last one it is dead already
		}
	}
	if greater != 4 || same != 3+3+6+12+24 || smaller != 3+6+12+24 {
		t.Error("so many are greater, the same and smaller:", greater, same, smaller)
	}
}

// The order of a new block is that of the old one where keys want one entry, and the new key comes behind them all.
func TestOrderOfANewBlock(t *testing.T) {
	for to := range 2 {
		l := numbered(300, to)
		for _, n := range []int{16, 8, 0} { // the entries 0, 1, 2 of 4
			l.number(t, "all want one entry", 0, n, n)
		}
		l.number(t, "and the new one", 0, 24, 24) // all want the entry 0 of 8, too
		if got := numbersOf(t, l, 0); !slices.Equal(got, []int{16, 8, 0, 24}) {
			t.Error("the keys come as", got)
		}
		m := numbered(300, to)
		for _, n := range []int{7, 3, 11} { // the entries 3, 0, 1 of 4
			m.number(t, "round the end", 0, n, n)
		}
		m.number(t, "and the new one", 0, 15, 15) // 3, 11, 7, 15: the entries 3, 4, 7, 0 of 8
		if got := numbersOf(t, m, 0); !slices.Equal(got, []int{15, 3, 11, 7}) {
			t.Error("the keys come as", got)
		}
	}
}

// 3 and 4 keys, 6 and 7, 12 and 13, 24 and 25, 48 and 49: Bad at the last one, for ever, and the keys that are there are still set.
func TestHowManyKeys(t *testing.T) {
	for to := range 2 {
		for _, semi := range []int{400, 1000} {
			l := numbered(semi, to)
			for n := 1; n <= 48; n++ {
				if l.number(t, "one more", 0, n, n) != impl.Done {
					t.Fatal("key", n)
				}
				capacity, used := impl.Capacity(l.Arena, 0)
				if capacity != leastFor(n) || used != n || impl.Border(l.Arena, 0) != n {
					t.Fatalf("%d keys: the capacity is %d, %d, the border %d", n, capacity, used, impl.Border(l.Arena, 0))
				}
			}
			for i := range 4 {
				was := l.Arena
				for _, n := range []int{49, 0, -1, 65} {
					if l.number(t, "a key too many", 0, n, 1) != impl.Bad {
						t.Fatal("key", n, "behind the 48th")
					}
					l.erase(t, "a key that is not there", 0, n)
				}
				if l.Top != was.Top || !slices.Equal(l.Words, was.Words) {
					t.Error("a key that is refused leaves other words")
				}
				for n := 1; n <= 48; n += 7 {
					l.number(t, "still set", 0, n, 100*i+n)
				}
				l.Arena, _ = impl.Collect(l.Arena)
			}
			l.erase(t, "one less", 0, 17)
			if code := l.number(t, "in its place", 0, 49, 1); semi == 400 {
				if code != impl.NoMem {
					t.Error("a second block of 64 entries in 399 words", code)
				}
				continue
			} else if code != impl.Done || l.number(t, "again too many", 0, 50, 1) != impl.Bad {
				t.Error("a key in the place of another one")
			}
			if n, m := impl.Capacity(l.Arena, 0); n != 64 || m != 48 || impl.Border(l.Arena, 0) != 16 {
				t.Error("the capacity is", n, m)
			}
		}
	}
}

// The same when some values were set to nothing ahead: those that are dead count up to the next new block, and not for it.
func TestHowManyKeysWithDeadOnes(t *testing.T) {
	for to := range 2 {
		l := numbered(1000, to)
		for n := 1; n <= 48; n++ {
			l.number(t, "full", 0, n, n)
		}
		for n := 5; n <= 48; n += 5 { // nine of them
			l.erase(t, "dead", 0, n)
		}
		if n, m := impl.Capacity(l.Arena, 0); n != 64 || m != 48 || impl.Border(l.Arena, 0) != 4 {
			t.Error("dead ones count", n, m)
		}
		for n := 101; n <= 109; n++ {
			if l.number(t, "in their place", 0, n, n) != impl.Done {
				t.Fatal("key", n)
			}
			if c, m := impl.Capacity(l.Arena, 0); c != 64 || m != 39+n-100 {
				t.Fatal("key", n, "the capacity is", c, m)
			}
		}
		for range 3 {
			if l.number(t, "too many", 0, 110, 1) != impl.Bad || l.number(t, "one that was dead", 0, 5, 1) != impl.Bad {
				t.Fatal("49 values")
			}
		}
		for n := 1; n <= 48; n++ {
			l.erase(t, "all but nine", 0, n)
		}
		if c, m := impl.Capacity(l.Arena, 0); c != 64 || m != 48 {
			t.Error("nothing is made smaller by erasing", c, m)
		}
		l.number(t, "a tenth one", 0, 110, 110)
		if c, m := impl.Capacity(l.Arena, 0); c != 16 || m != 10 {
			t.Error("ten are left", c, m)
		}
	}
}

// NextKey from nothing, from each key, from the last one, from a dead entry's key, and from one that is not there.
func TestNextKeyFromEach(t *testing.T) {
	const key, into, value = 1, 2, 3
	for to := range 2 {
		made := func(semi int, to int) impl.Arena {
			l := numbered(semi, to)
			for _, n := range []int{8, 1, 17, 3, 6, 14} { // the entries 0, 1, 2, 3, 6, 7 of 8
				l.number(t, "set", 0, n, 10*n)
			}
			for _, n := range []int{1, 17, 14} {
				l.erase(t, "dead", 0, n)
			}
			return l.Arena
		}
		for stage, a := range stages(made, 300, to) {
			from := func(v impl.Val) (impl.Arena, bool) {
				in, _ := impl.SetRoot(a, key, v)
				return impl.NextKey(in, 0, key, into, value)
			}
			for v, want := range map[impl.Val]int{{}: 8, num(8): 3, num(1): 3, num(17): 3, num(3): 6} {
				out, ok := from(v)
				if !ok || out.Roots[into] != num(want) || out.Roots[value] != num(10*want) || out.Roots[key] != v || !impl.ArenaOk(out) {
					t.Errorf("%s: behind %v comes %v, %v", stage, v, out.Roots, ok)
				}
			}
			for _, v := range []impl.Val{num(6), num(14)} { // the last one, and a dead one behind it
				out, ok := from(v)
				if !ok || out.Roots[into] != (impl.Val{}) || out.Roots[value] != (impl.Val{}) {
					t.Errorf("%s: behind %v comes %v, %v", stage, v, out.Roots, ok)
				}
			}
			for _, v := range []impl.Val{num(0), num(2), num(9), num(16), num(-8), yes(), {Tag: impl.TBool}, {Tag: impl.TLib, N: 1}} {
				in, _ := impl.SetRoot(a, key, v)
				if out, ok := from(v); ok || !sameArena(out, in) {
					t.Errorf("%s: behind %v, which is not there, comes %v", stage, v, out.Roots)
				}
			}
			out, ok := impl.NextKey(a, 0, 0, into, value) // the table itself is no key of it
			if ok || !sameArena(out, a) {
				t.Errorf("%s: behind the table comes %v", stage, out.Roots)
			}
		}
	}
}

// r, key, from, into and value may be the same Roots, in all their ways: the model tells what comes of it.
func TestTableRootsThatAreTheSame(t *testing.T) {
	made := func(semi int, to int) impl.Arena {
		a := dirty(semi, to, 3)
		l := &layer{a.Words, a.Top}
		text := ref(impl.TStr, l.text("a text")) // its hash wants the entry 1 of 4, too
		tab := ref(impl.TTab, l.table(1, 0, impl.Val{}))
		block := l.block(4, entry{1, tab, tab}, entry{2, text, num(8)})
		copy(a.Words[tab.N+1:], append([]uint64{2}, pairs(ref(impl.TBlk, block))...))
		a.Top, a.Serial = l.at, 2
		a.Roots[0], a.Roots[1] = tab, text
		return a
	}
	for to := range 2 {
		for stage, a := range stages(made, impl.MinSemi, to) {
			if !impl.ArenaOk(a) {
				t.Fatal(stage, "is not right")
			}
			for i := range 3 * 3 * 3 * 3 * 3 {
				checkTables(t, a, tableCalls{i % 3, i / 3 % 3, i / 9 % 3, i / 27 % 3, i / 81})
			}
			out, ok := impl.GetKey(a, 0, 1, 0) // the table is gone from its Root
			if !ok || out.Roots[0] != num(8) {
				t.Errorf("%s: %v is got", stage, out.Roots[0])
			}
			out, ok = impl.NextKey(a, 0, 2, 0, 2)
			if !ok || out.Roots[0].Tag != impl.TTab || out.Roots[2] != out.Roots[0] {
				t.Errorf("%s: the first key is %v", stage, out.Roots)
			}
			out, ok = impl.NextKey(a, 0, 0, 1, 0)
			if text, _ := impl.TextOf(out, 1); !ok || text != "a text" || out.Roots[0] != num(8) {
				t.Errorf("%s: the second key is %q, %v", stage, text, out.Roots)
			}
		}
	}
}

func TestBorders(t *testing.T) {
	for to := range 2 {
		l := numbered(1000, to)
		if impl.Border(l.Arena, 0) != 0 {
			t.Error("without a block")
		}
		border := func(name string, want int) {
			t.Helper()
			if got := impl.Border(l.Arena, 0); got != want {
				t.Errorf("%s: the border is %d, want %d", name, got, want)
			}
		}
		for _, n := range []int{0, -1, 2, 1000004} { // 1000004 has the hash of 1
			l.number(t, "not 1", 0, n, n)
		}
		border("without 1", 0)
		l.Arena, _ = impl.SetRoot(l.Arena, 1, yes())
		l.set(t, "yes", 0, 1, 1)
		l.Arena, _ = impl.PutText(l.Arena, "1", 1)
		l.set(t, "a text", 0, 1, 1)
		border("with others of that name", 0)
		l.number(t, "1", 0, 1, 0)
		border("1 and 2", 2)
		for n := 10; n > 3; n-- {
			l.number(t, "from above", 0, n, n)
			border("with a hole at 3", 2)
		}
		l.Arena, _ = impl.SetRoot(l.Arena, 1, impl.Val{Tag: impl.TBool}) // no is a value
		l.Arena, _ = impl.SetRoot(l.Arena, 2, num(3))
		l.set(t, "3", 0, 2, 1)
		border("1 to 10", 10)
		l.number(t, "11", 0, 11, 0)
		border("1 to 11", 11)
		l.erase(t, "dead at 11", 0, 11)
		border("dead at 11", 10)
		l.erase(t, "dead at 5", 0, 5)
		border("dead at 5", 4)
		l.erase(t, "dead at 1", 0, 1)
		border("dead at 1", 0)
	}
}

// Telling leaves the arena as it was: nothing is forwarded, and no step is taken.
func TestTellingForwardsNothing(t *testing.T) {
	made := func(semi int, to int) impl.Arena {
		l := ledgerOf(cabinet(semi, to))
		for key := range cabinetKeys {
			l.set(t, "set", 0, key, key)
		}
		l.set(t, "set", 14, 11, 0)
		return l.Arena
	}
	for to := range 2 {
		for stage, a := range stages(made, 1500, to) {
			in := roomy(a)
			was := allOf(in)
			for r := range a.Roots {
				impl.Border(in, r)
				impl.Capacity(in, r)
			}
			if !sameArena(whole(in), was) {
				t.Errorf("%s: it is another one", stage)
			}
			n, m := impl.Capacity(in, 0)
			if n != 32 || m != cabinetKeys-1 || impl.Border(in, 0) != 1 {
				t.Errorf("%s: the capacity is %d, %d, the border %d", stage, n, m, impl.Border(in, 0))
			}
		}
		begun := stages(made, 1500, to)["begun"]
		if v := slotOf(begun, begun.Roots[0].N, 0); begun.To != to || v.N/1500 == to {
			t.Error("the table does not lead into the other half")
		}
	}
}

// Without a serial that is left no table is made, and nothing is flipped; keys are set as ever.
func TestTablesAtTheLastSerial(t *testing.T) {
	for to := range 2 {
		for stage, a := range stages(cabinet, 700, to) {
			a.Serial = impl.MaxSerial - 1
			a, code := impl.NewTab(a, 20)
			if code != impl.Done || impl.SerialOf(a, 20) != impl.MaxSerial-1 || a.Serial != impl.MaxSerial || !impl.ArenaOk(a) {
				t.Fatal(stage, "the last serial", code, impl.SerialOf(a, 20))
			}
			if out, code := impl.NewTab(a, 20); code != impl.Bad || !sameArena(out, a) {
				t.Error(stage, "a serial behind the last one", code)
			}
			l := ledgerOf(a)
			for key := range cabinetKeys {
				if l.set(t, stage, 20, key, key) != impl.Done {
					t.Error(stage, "a block needs no serial")
				}
			}
			l.set(t, stage, 20, 20, 20) // a hash of MaxSerial - 1
			if l.Serial != impl.MaxSerial {
				t.Error(stage, "the serial is", l.Serial)
			}
		}
		full := chain(impl.MinSemi, to, 85)
		full.Serial = impl.MaxSerial
		if out, code := impl.NewTab(full, 0); code != impl.Bad || !sameArena(out, full) {
			t.Error("no serial and no room", code)
		}
	}
}
