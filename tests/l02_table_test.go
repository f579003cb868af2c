package tests

import (
	"math"
	"testing"

	"loop.example/g00101/impl"
)

func capacities() []int { return []int{4, 8, 16, 32, 64} }

// keyed is an arena with objects that may be keys, and a table with a block of that capacity and these entries.
func keyed(capacity int, used int, entries ...entry) impl.Arena {
	a := newArena(1000, 1)
	l := &layer{a.Words, a.Top}
	for _, s := range keyTexts() {
		l.text(s)
	}
	l.table(11, 0, impl.Val{})
	l.fun(12, 3)
	l.co(13, [4]uint64{}, impl.Val{})
	block := l.block(capacity, entries...)
	l.table(14, used, ref(impl.TBlk, block))
	a.Top, a.Serial = l.at, 15
	return a
}

func keyTexts() []string {
	return []string{"", "a", "b", "ab", "done", "\xff\xff\xff\xff\xff\xff\xff\xff\xff", "a"}
}

// hashed is a key with its hash, reckoned beside the program.
type hashed struct {
	key  impl.Val
	hash int
}

// hashedKeys takes the places from how keyed lays its objects, from 1001 on.
func hashedKeys() []hashed {
	return []hashed{
		{impl.Val{Tag: impl.TBool, N: 0}, 0},
		{yes(), 1},
		{num(0), 0}, {num(1), 1}, {num(1000002), 1000002}, {num(1000003), 0}, {num(1000006), 3},
		{num(-1), 350686}, {num(math.MinInt), 675345}, {num(math.MaxInt), 675344},
		{impl.Val{Tag: impl.TLib, N: 1}, 8}, {impl.Val{Tag: impl.TLib, N: 20}, 27},
		{ref(impl.TStr, 1001), 5381},
		{ref(impl.TStr, 1003), 177670}, // "a"
		{ref(impl.TStr, 1006), 177671}, // "b"
		{ref(impl.TStr, 1009), 863193}, // "ab"
		{ref(impl.TStr, 1012), 140056}, // "done"
		{ref(impl.TStr, 1015), 370883}, // nine bytes 255
		{ref(impl.TTab, 1022), 11},
		{ref(impl.TFun, 1026), 12},
		{ref(impl.TCo, 1028), 13},
	}
}

func TestWhereEachKeyStands(t *testing.T) {
	for _, k := range hashedKeys() {
		for _, capacity := range capacities() {
			for i := range capacity {
				for _, value := range []impl.Val{{}, num(7), k.key} {
					a := keyed(capacity, 1, entry{i, k.key, value})
					want := i == k.hash%capacity
					if impl.ArenaOk(a) != want || modelOk(a) != want {
						t.Fatalf("%v in the entry %d of %d: %v", k.key, i, capacity, !want)
					}
				}
			}
		}
	}
}

// In a block that is in no table keys may stand anywhere.
func TestLooseBlocks(t *testing.T) {
	for _, k := range hashedKeys() {
		a := keyed(4, 0)
		l := &layer{a.Words, a.Top}
		l.block(4, entry{0, k.key, num(1)}, entry{1, k.key, num(1)}, entry{2, k.key, num(1)}, entry{3, k.key, num(1)})
		a.Top = l.at
		if !impl.ArenaOk(a) {
			t.Errorf("four times %v refused", k.key)
		}
	}
}

func TestHowManyEntries(t *testing.T) {
	for _, capacity := range capacities() {
		for n := range capacity + 1 {
			var entries []entry
			for i := range n {
				entries = append(entries, entry{i, num(i), impl.Val{}})
			}
			want := n <= capacity/4*3
			if a := keyed(capacity, n, entries...); impl.ArenaOk(a) != want || modelOk(a) != want {
				t.Errorf("%d of %d entries: %v", n, capacity, !want)
			}
			for _, told := range []int{n - 1, n + 1, n + 1<<32, n + math.MinInt, -n - 1, capacity} {
				if told != n {
					checkRefused(t, "another number of entries", keyed(capacity, told, entries...))
				}
			}
		}
	}
}

func TestKeysThatMeet(t *testing.T) {
	text := func(at int) impl.Val { return ref(impl.TStr, at) }
	cases := []struct {
		name    string
		entries []entry
		want    bool
	}{
		{"one behind the other", []entry{{1, num(1), num(0)}, {2, num(5), num(0)}, {3, num(9), num(0)}}, true},
		{"one behind the other, in another order", []entry{{1, num(9), num(0)}, {2, num(1), num(0)}, {3, num(5), num(0)}}, true},
		{"round the end", []entry{{3, num(3), num(0)}, {0, num(7), num(0)}, {1, num(11), num(0)}}, true},
		{"behind one that is at home there", []entry{{1, num(1), num(0)}, {2, num(2), num(0)}, {3, num(5), num(0)}}, true},
		{"behind a dead one", []entry{{1, num(1), impl.Val{}}, {2, num(5), num(0)}}, true},
		{"behind an empty one", []entry{{1, num(1), num(0)}, {3, num(5), num(0)}}, false},
		{"behind an empty one that has a value", []entry{{1, impl.Val{}, num(8)}, {2, num(5), num(0)}}, false},
		{"beside an empty one that has a value", []entry{{1, impl.Val{}, num(8)}, {2, num(2), num(0)}}, true},
		{"ahead of where it begins", []entry{{0, num(1), num(0)}, {1, num(5), num(0)}}, false},
		{"behind an empty one round the end", []entry{{3, num(3), num(0)}, {1, num(7), num(0)}}, false},
		{"the same number twice", []entry{{1, num(1), num(0)}, {2, num(1), num(0)}}, false},
		{"the same number twice, once dead", []entry{{1, num(1), impl.Val{}}, {2, num(1), num(0)}}, false},
		{"the same number twice, one between", []entry{{1, num(1), num(0)}, {2, num(5), num(0)}, {3, num(1), num(0)}}, false},
		{"a number and a yes", []entry{{1, num(1), num(0)}, {2, yes(), num(0)}}, true},
		{"a no and a number", []entry{{0, impl.Val{Tag: impl.TBool}, num(0)}, {1, num(0), num(0)}}, true},
		{"a number and a library function", []entry{{0, num(1), num(0)}, {1, impl.Val{Tag: impl.TLib, N: 1}, num(0)}}, false},
		{"a library function and its hash", []entry{{0, impl.Val{Tag: impl.TLib, N: 1}, num(0)}, {1, num(8), num(0)}}, true},
		{"a text twice", []entry{{2, text(1003), num(0)}, {3, text(1003), num(0)}}, false},
		{"two texts of the same bytes", []entry{{2, text(1003), num(0)}, {3, text(1019), num(0)}}, false},
		{"the other one of them alone", []entry{{2, text(1019), num(0)}}, true},
		{"two texts", []entry{{2, text(1003), num(0)}, {3, text(1006), num(0)}}, true},
		{"a text and its hash", []entry{{2, text(1003), num(0)}, {3, num(177670), num(0)}}, true},
		{"a table and its serial", []entry{{3, ref(impl.TTab, 1022), num(0)}, {0, num(11), num(0)}}, true},
		{"a table twice", []entry{{3, ref(impl.TTab, 1022), num(0)}, {0, ref(impl.TTab, 1022), num(0)}}, false},
		{"a box as a key", []entry{{3, ref(impl.TCell, 1022), num(0)}}, false},
	}
	for _, c := range cases {
		used := 0
		for _, e := range c.entries {
			if e.key.Tag != impl.TNil {
				used++
			}
		}
		a := keyed(4, used, c.entries...)
		if impl.ArenaOk(a) != c.want || modelOk(a) != c.want {
			t.Errorf("%s: %v", c.name, !c.want)
		}
	}
}

func TestTablesWithoutBlocks(t *testing.T) {
	first := func(n uint64) func(s *sample) {
		return func(s *sample) { s.put("none", 1, n) }
	}
	slot := func(v impl.Val) func(s *sample) {
		return func(s *sample) { s.put("none", 2, pairs(v)...) }
	}
	checkTurns(t, stillSample, false, []turn{
		{"an entry", first(1)},
		{"entries with the highest bit", first(1 << 63)},
		{"a number for a block", slot(num(0))},
		{"a no for a block", slot(impl.Val{Tag: impl.TBool})},
		{"a text for a block", func(s *sample) { s.put("none", 2, pairs(ref(impl.TStr, s.at["nine"]))...) }},
		{"a table for a block", func(s *sample) { s.put("none", 2, pairs(ref(impl.TTab, s.at["none"]))...) }},
		{"a box for a block", func(s *sample) { s.put("none", 2, pairs(ref(impl.TCell, s.at["box"]))...) }},
		{"a block that is a table", func(s *sample) { s.put("none", 2, pairs(ref(impl.TBlk, s.at["table"]))...) }},
		{"no block any more", func(s *sample) { s.put("table", 2, 0, 0) }},
		{"another block", func(s *sample) { s.put("table", 2, pairs(ref(impl.TBlk, s.at["loose"]))...) }},
	})
}

func TestBoxesInBlocks(t *testing.T) {
	box := func(name string, at int) func(s *sample) {
		return func(s *sample) { s.put(name, at, pairs(ref(impl.TCell, s.at["box"]))...) }
	}
	checkTurns(t, stillSample, false, []turn{
		{"a key of a block that is in a table", box("block", 1+4)},
		{"a value of one", box("block", 3)},
		{"a value of an empty entry", box("block", 1+4*3+2)},
		{"a key of a loose block", box("loose", 1)},
		{"a value of a loose block", box("loose", 3)},
	})
	checkTurns(t, stillSample, true, []turn{
		{"a function as a value", func(s *sample) { s.put("block", 3, pairs(ref(impl.TFun, s.at["fun"]))...) }},
		{"a value of an empty entry", func(s *sample) { s.put("block", 1+4*3+2, pairs(ref(impl.TCo, s.at["co"]))...) }},
	})
}

func TestOneBlockInTwoTables(t *testing.T) {
	takes := func(table string, used uint64, block string) func(s *sample) {
		return func(s *sample) {
			s.put(table, 1, append([]uint64{used}, pairs(ref(impl.TBlk, s.at[block]))...)...)
		}
	}
	checkTurns(t, stillSample, false, []turn{{"in the half in use", takes("none", 3, "block")}})
	checkTurns(t, cycleSample, false, []turn{
		{"both in the half in use, the block in the other one", takes("new table", 3, "old block")},
		{"one in each half, by its new place and its old one", takes("new table", 2, "copy block")},
		{"one in each half, by its old place", takes("new table", 2, "old copy block")},
		{"one in each half, the block in the other one", takes("old table", 3, "old block")},
	})
	checkTurns(t, cycleSample, true, []turn{
		{"the table of the other half lets go of it", func(s *sample) {
			takes("new table", 2, "copy block")(s)
			s.put("old table", 1, 0, 0, 0)
		}},
		{"the same, by its old place", func(s *sample) {
			takes("new table", 2, "old copy block")(s)
			s.put("old table", 1, 0, 0, 0)
		}},
	})
}

// Keys are the same wherever they lie: in either half, by an old place and by a new one.
func TestKeysWhileACycleRuns(t *testing.T) {
	entryAt := func(name string, i int, key func(s *sample) impl.Val) func(s *sample) {
		return func(s *sample) { s.put(name, 1+4*i, pairs(key(s))...) }
	}
	to := func(tag int, name string) func(s *sample) impl.Val {
		return func(s *sample) impl.Val { return ref(tag, s.at[name]) }
	}
	// The keys of "copy block": yes, and "new table" behind it.
	checkTurns(t, cycleSample, false, []turn{
		{"a table by its new place and its old one", func(s *sample) {
			entryAt("copy block", 1, to(impl.TTab, "copy table"))(s)
			entryAt("copy block", 2, to(impl.TTab, "old copy table"))(s)
		}},
		{"a text by its new place and its old one", func(s *sample) {
			entryAt("copy block", 0, to(impl.TStr, "done text"))(s)
			entryAt("copy block", 1, to(impl.TStr, "old done"))(s)
			entryAt("copy block", 2, func(*sample) impl.Val { return yes() })(s)
			s.put("old table", 1, 3)
		}},
		{"a copied table that is not where its serial says", entryAt("copy block", 3, to(impl.TTab, "old copy table"))},
		{"a copied text that is not where its bytes say", func(s *sample) {
			swapEntries(s.Words[s.at["old block"]+1:], 0, 3)
		}},
		{"entries of the other half, one less", func(s *sample) { s.put("copy table", 1, 2) }},
		{"entries of a copied block, one more", func(s *sample) { s.put("old table", 1, 3) }},
	})
	checkTurns(t, cycleSample, true, []turn{
		{"a table by its old place", entryAt("copy block", 2, to(impl.TTab, "old copy table"))},
		{"a table by its new place", entryAt("copy block", 2, to(impl.TTab, "copy table"))},
		{"a text by its old place", func(s *sample) {
			entryAt("copy block", 0, to(impl.TStr, "old done"))(s)
			s.put("old table", 1, 3)
		}},
		{"a text by its new place", func(s *sample) {
			entryAt("copy block", 0, to(impl.TStr, "done text"))(s)
			s.put("old table", 1, 3)
		}},
		{"a text of the other half", func(s *sample) {
			entryAt("copy block", 3, to(impl.TStr, "old text"))(s)
			s.put("old table", 1, 3)
		}},
	})
}

// Of each part of a right arena any word may be anything: it is refused or taken, and nothing fails.
func TestAnyWordAnywhere(t *testing.T) {
	words := []uint64{0, 1, 3, 8, 9, 255, 256, 1 << 32, 1 << 63, 1<<63 + 1, 1<<63 + 257, 1<<63 + 511, 1<<63 + 1<<31, math.MaxUint64, math.MaxInt64,
		packed(impl.Head{Kind: impl.KBlk, Size: 256}), packed(impl.Head{Kind: impl.KStr, Size: 1}), packed(impl.Head{Kind: impl.KStr, Size: 21}),
		packed(impl.Head{Kind: impl.KCo, Size: 126, Serial: 7}), packed(impl.Head{Kind: impl.KCell, Size: 2})}
	for to := range 2 {
		for _, s := range []sample{stillSample(impl.MinSemi, to), cycleSample(impl.MinSemi, to)} {
			for at, was := range s.Words {
				for _, w := range words {
					s.Words[at] = w
					if want := modelOk(s.Arena); impl.ArenaOk(s.Arena) != want {
						t.Fatalf("half %d: %#x at %d: %v", to, w, at, !want)
					}
				}
				s.Words[at] = was
			}
		}
	}
}
