package tests

import (
	"slices"
	"testing"

	"loop.example/g00101/impl"
)

// left has a Cycle that has just begun, half to in use: a table in the Root 0 whose block was not copied, nor the text that is a key in it, nor the text that is its value. The Root 1 is a text of the key's bytes, in the half in use; the Root 2 a number, the Roots 3 to 5 are nothing.
func left(semi int, to int) sample {
	s := sample{newArena(semi, to), map[string]int{}}
	l := &layer{s.Words, s.Top}
	o := &layer{s.Words, (1-to)*semi + 1}
	s.at["table"] = l.table(1, 2, impl.Val{})
	s.at["twin"] = l.text("a")
	s.at["old table"] = o.forward(s.at["table"], 3)
	s.at["old twin"] = o.forward(s.at["twin"], 2)
	s.at["old key"] = o.text("a")
	s.at["old value"] = o.text("a value")
	s.at["old block"] = o.block(4,
		entry{2, ref(impl.TStr, s.at["old key"]), ref(impl.TStr, s.at["old value"])}, // the hash of "a" is 177670
		entry{3, num(3), ref(impl.TTab, s.at["old table"])},
	)
	s.put("table", 2, pairs(ref(impl.TBlk, s.at["old block"]))...)
	s.Top, s.Old, s.Serial = l.at, o.at, 2
	s.Cycle, s.Scan, s.Copied = true, s.at["table"], 7
	s.Roots = []impl.Val{ref(impl.TTab, s.at["table"]), ref(impl.TStr, s.at["twin"]), num(8), {}, {}, {}}
	return s
}

// afterBlock is what left is when its block was copied, and nothing else: the place of the copy comes with it.
func (s sample) afterBlock() (sample, int) {
	out := s.twin()
	at := s.Top
	copy(out.Words[at:], s.Words[s.at["old block"]:][:17])
	out.put("old block", 0, 1<<63+uint64(at))
	out.put("table", 2, pairs(ref(impl.TBlk, at))...)
	out.Top += 17
	out.Copied += 17
	return out, at
}

// afterText is what a sample is when a text of the other half was copied, too, and the slot at a place leads to its copy.
func (s sample) afterText(name string, slot int) sample {
	out := s.twin()
	at := s.Top
	copy(out.Words[at:], s.Words[s.at[name]:][:3])
	out.put(name, 0, 1<<63+uint64(at))
	copy(out.Words[slot:], pairs(ref(impl.TStr, at)))
	out.Top += 3
	out.Copied += 3
	return out
}

// checkWords: an answer is right, and what is wanted, word by word.
func checkWords(t *testing.T, name string, out impl.Arena, want impl.Arena) {
	t.Helper()
	words := out.Words
	for i, w := range out.Words {
		if w != want.Words[i] {
			t.Errorf("%s: the word %d is %d, want %d", name, i, w, want.Words[i])
		}
	}
	if out.Words, want.Words = nil, nil; !sameArena(out, want) {
		t.Errorf("%s: the arena is %+v, want %+v", name, out, want)
	}
	if out.Words = words; !impl.ArenaOk(out) {
		t.Errorf("%s: the arena is not right", name)
	}
}

// What is loaded of a table that was copied, while its block, its keys and its values were not, word by word.
func TestLoadedOfATable(t *testing.T) {
	for to := range 2 {
		s := left(300, to)
		if !impl.ArenaOk(s.Arena) || thingOf(s.Arena, 1).hash()%4 != 2 {
			t.Fatal("not right")
		}
		copied, block := s.afterBlock()
		key, value := block+1+8, block+1+8+2

		// With a text of the key's bytes the value is got: its copy stands behind that of the block. The key is only looked at.
		out, ok := impl.GetKey(s.Arena, 0, 1, 3)
		want := copied.afterText("old value", value)
		want.Roots[3] = ref(impl.TStr, block+17)
		checkWords(t, "GetKey", out, want.Arena)
		if v, _ := impl.GetVal(out.Words, key); !ok || v != ref(impl.TStr, s.at["old key"]) {
			t.Error("the key was forwarded", v)
		}

		// A value that was copied already is not copied again, and leads to the copy.
		in, _ := impl.SetRoot(s.Arena, 2, num(3))
		out, ok = impl.GetKey(in, 0, 2, 3)
		want, _ = copied.twin(), ok
		copy(want.Words[block+1+12+2:], pairs(want.Roots[0]))
		want.Roots[2], want.Roots[3] = num(3), want.Roots[0]
		checkWords(t, "GetKey of the table", out, want.Arena)

		// A key that is not there, and nothing: only the block is copied.
		for _, none := range []int{2, 3} {
			out, ok = impl.GetKey(s.Arena, 0, none, 4)
			if !ok {
				t.Error("GetKey of what is not there")
			}
			checkWords(t, "GetKey of what is not there", out, copied.Arena)
		}

		// From nothing on: the key is loaded first, then the value.
		out, ok = impl.NextKey(s.Arena, 0, 3, 4, 5)
		want = copied.afterText("old key", key).afterText("old value", value)
		want.Roots[4], want.Roots[5] = ref(impl.TStr, block+17), ref(impl.TStr, block+20)
		if !ok {
			t.Error("NextKey")
		}
		checkWords(t, "NextKey", out, want.Arena)
		again, _ := impl.NextKey(s.Arena, 0, 3, 5, 4) // the Roots the other way round, and what is loaded in the same order
		if again.Roots[5] != out.Roots[4] || again.Roots[4] != out.Roots[5] || !slices.Equal(again.Words, out.Words) {
			t.Error("NextKey with its Roots the other way round", again.Roots)
		}

		// Behind a text of the key's bytes comes the number 3; that text is only looked at.
		out, ok = impl.NextKey(s.Arena, 0, 1, 4, 5)
		want = copied.twin()
		copy(want.Words[block+1+12+2:], pairs(want.Roots[0]))
		want.Roots[4], want.Roots[5] = num(3), want.Roots[0]
		if !ok {
			t.Error("NextKey of a text")
		}
		checkWords(t, "NextKey of a text", out, want.Arena)

		// What is refused forwards nothing.
		if out, ok = impl.NextKey(s.Arena, 0, 2, 4, 5); ok || !sameArena(out, s.Arena) {
			t.Error("NextKey of a key that is not there")
		}
		if n, m := impl.Capacity(s.Arena, 0); n != 4 || m != 2 || impl.Border(s.Arena, 0) != 0 {
			t.Error("the capacity is", n, m)
		}
	}
}

// The block was copied already, and the table leads to where it was: it is looked at in its new place, and loaded without another copy.
func TestBlockThatWasCopiedAlready(t *testing.T) {
	for to := range 2 {
		s, block := left(300, to).afterBlock()
		s.put("table", 1, append([]uint64{3}, pairs(ref(impl.TBlk, s.at["old block"]))...)...)
		copy(s.Words[block+1+4:], pairs(num(1), num(10)))
		if !impl.ArenaOk(s.Arena) {
			t.Fatal("not right")
		}
		n, m := impl.Capacity(s.Arena, 0)
		if n != 4 || m != 3 || impl.Border(s.Arena, 0) != 1 {
			t.Error("the capacity is", n, m, "the border", impl.Border(s.Arena, 0))
		}
		loaded := s.twin()
		loaded.put("table", 2, pairs(ref(impl.TBlk, block))...)
		s.Roots[2], loaded.Roots[2] = num(1), num(1)
		for name, call := range map[string]func() (impl.Arena, bool){
			"GetKey":  func() (impl.Arena, bool) { return impl.GetKey(s.Arena, 0, 2, 4) },
			"NextKey": func() (impl.Arena, bool) { return impl.NextKey(s.Arena, 0, 3, 5, 4) },
			"SetKey":  func() (impl.Arena, bool) { return setKey(s.Arena, 0, 2, 2) },
		} {
			out, ok := call()
			want := loaded.twin()
			switch name {
			case "GetKey":
				want.Roots[4] = num(10)
			case "NextKey":
				want.Roots[4], want.Roots[5] = num(10), num(1)
			case "SetKey":
				copy(want.Words[block+1+4+2:], pairs(num(1)))
			}
			if !ok {
				t.Error(name, "is refused")
			}
			checkWords(t, name, out, want.Arena)
		}
	}
}

// What is set in a table whose block was not copied, nor its keys and values, word by word: the old block stays as it was behind its first word.
func TestSetOfATableLeftBehind(t *testing.T) {
	for to := range 2 {
		s := left(300, to)
		copied, block := s.afterBlock()

		// An entry with a key of these bytes: its value is the Root, its key stays in the other half.
		out, code := impl.SetKey(s.Arena, 0, 1, 2)
		want := copied.twin()
		copy(want.Words[block+1+8+2:], pairs(num(8)))
		checkWords(t, "with a value", out, want.Arena)
		old := s.at["old block"]
		if code != impl.Done || !slices.Equal(out.Words[old+1:old+17], s.Words[old+1:old+17]) {
			t.Error("the old block was written into", code)
		}

		// To nothing: the value is gone, and never copied.
		out, code = impl.SetKey(s.Arena, 0, 1, 3)
		want = copied.twin()
		copy(want.Words[block+1+8+2:], pairs(impl.Val{}))
		checkWords(t, "to nothing", out, want.Arena)
		if over, _ := impl.Finish(out); code != impl.Done || over.Top != over.To*300+1+4+3+17+3 {
			t.Error("behind the cycle Top is", over.Top, code)
		}

		// A key that is not there to nothing: the block is loaded, and nothing else done.
		out, code = impl.SetKey(s.Arena, 0, 2, 3)
		if code != impl.Done {
			t.Error("not there", code)
		}
		checkWords(t, "not there", out, copied.Arena)

		// A third key has room in the block.
		out, code = impl.SetKey(s.Arena, 0, 2, 1)
		want = copied.twin()
		want.put("table", 1, 3)
		copy(want.Words[block+1:], pairs(num(8), want.Roots[1])) // 8 mod 4
		if code != impl.Done {
			t.Error("a third key", code)
		}
		checkWords(t, "a third key", out, want.Arena)

		// What is refused forwards nothing.
		for _, x := range [][3]int{{0, 3, 1}, {1, 2, 2}, {0, 6, 2}, {0, 2, 6}} {
			if out, code := impl.SetKey(s.Arena, x[0], x[1], x[2]); code != impl.Bad || !sameArena(out, s.Arena) {
				t.Error("refused", x, code)
			}
		}
	}
}

// A new block while a Cycle runs: the old one is loaded first of all, then two objects are gone over (the table, and the text, which has no slots); the new block takes over what stands in the old one, places of the other half with it.
func TestNewBlockWhileACycleRuns(t *testing.T) {
	for to := range 2 {
		s := left(300, to)
		s.put("table", 1, 3)
		s.put("old block", 1, pairs(num(4), num(40))...) // the entry 0
		copied, block := s.afterBlock()
		out, code := impl.SetKey(s.Arena, 0, 2, 1)
		want := copied.twin()
		at := want.Top
		made := &layer{want.Words, at}
		made.block(8,
			entry{4, num(4), num(40)},
			entry{6, ref(impl.TStr, s.at["old key"]), ref(impl.TStr, s.at["old value"])}, // 177670 mod 8
			entry{3, num(3), ref(impl.TTab, s.at["old table"])},
			entry{0, num(8), ref(impl.TStr, s.at["twin"])},
		)
		want.Top, want.Scan = made.at, block
		want.put("table", 1, append([]uint64{4}, pairs(ref(impl.TBlk, at))...)...)
		if code != impl.Done {
			t.Error("a fourth key", code)
		}
		checkWords(t, "a fourth key", out, want.Arena)
		// Of two that want one entry the new one is second.
		in, _ := impl.SetRoot(s.Arena, 2, num(12))
		out, _ = impl.SetKey(in, 0, 2, 1)
		if keys, _ := walked(t, withSpare(out), 0); !slices.Equal(keys, []string{"2:3", "2:4", "2:12", `"a"`}) {
			t.Error("the keys are", keys)
		}
	}
}

// A new block whose asking flips: the table was moved then, and neither its old block nor its keys and values; they are looked at where they lie, and the old block is never copied.
func TestNewBlockBehindAFlip(t *testing.T) {
	for to := range 2 {
		a := newArena(300, 1-to)
		l := &layer{a.Words, a.Top}
		boxes := []int{l.cell(num(1)), l.cell(num(2))} // both are gone over by the asking, ahead of the table
		key, value := ref(impl.TStr, l.text("a")), ref(impl.TStr, l.text("a value"))
		block := l.block(4, entry{2, key, value}, entry{3, num(3), num(30)}, entry{0, num(4), num(40)})
		tab := ref(impl.TTab, l.table(1, 3, ref(impl.TBlk, block)))
		for range 40 {
			l.cell(num(0)) // garbage: more than half is in use
		}
		a.Top, a.Serial = l.at, 2
		a.Roots = []impl.Val{ref(impl.TCell, boxes[0]), ref(impl.TCell, boxes[1]), tab, num(8), yes()}
		if !impl.ArenaOk(a) || 2*(a.Top-(1-to)*300-1) <= 299 {
			t.Fatal("not right, or not enough in use")
		}
		out, code := impl.SetKey(a, 2, 3, 4)
		begin := to*300 + 1
		if code != impl.Done || !out.Cycle || out.To != to || out.Scan != begin+6 || out.Copied != 10 || out.Top != begin+10+33 || !impl.ArenaOk(out) {
			t.Fatalf("half %d: %d, at %v", to, code, standOf(out))
		}
		want := make([]uint64, 43)
		w := &layer{words: want}
		w.cell(num(1))
		w.cell(num(2))
		w.table(1, 4, ref(impl.TBlk, begin+10))
		w.block(8, entry{4, num(4), num(40)}, entry{6, key, value}, entry{3, num(3), num(30)}, entry{0, num(8), yes()})
		if !slices.Equal(out.Words[begin:out.Top], want) {
			t.Errorf("half %d: the words are\n%x, want\n%x", to, out.Words[begin:out.Top], want)
		}
		if !slices.Equal(out.Words[block:block+17], a.Words[block:block+17]) {
			t.Error("the old block was written into")
		}
		over, _ := impl.Finish(out)
		if over.Top != begin+43+3+3 || impl.Reached(over) != 49 {
			t.Error("behind the cycle there is more than what can be reached:", over.Top-begin)
		}
		if keys, values := walked(t, withSpare(over), 2); !slices.Equal(keys, []string{"2:8", "2:3", "2:4", `"a"`}) || values[3] != `"a value"` {
			t.Error("the table has", keys, values)
		}
	}
}

// A new block that room is found for by a collection: all lies elsewhere then, in either half.
func TestNewBlockBehindACollection(t *testing.T) {
	for to := range 2 {
		for _, cycle := range []bool{false, true} {
			a := dirty(impl.MinSemi, to, impl.MaxRoots)
			l := &layer{a.Words, a.Top}
			for range 20 {
				l.cell(num(0))
			}
			key, value := ref(impl.TStr, l.text("a")), ref(impl.TStr, l.text("a value"))
			block := l.block(4, entry{2, key, value}, entry{3, num(3), value}, entry{0, num(4), key})
			tab := ref(impl.TTab, l.table(1, 3, ref(impl.TBlk, block)))
			fun := ref(impl.TFun, l.fun(2, 1))
			for l.at+3 <= to*impl.MinSemi+impl.MinSemi {
				l.cell(num(0))
			}
			a.Top, a.Serial = l.at, 3
			a.Roots[0], a.Roots[1], a.Roots[2] = tab, fun, key
			if cycle {
				a, _ = impl.CopyStep(flippedOf(a), 1)
			}
			if !impl.ArenaOk(a) || impl.Free(a) >= 33 {
				t.Fatal("not right, or too much is free", impl.Free(a))
			}
			out, code := impl.SetKey(a, 0, 1, 0) // the function, to the table itself
			if code != impl.Done || out.Cycle || !impl.ArenaOk(out) || out.Roots[0] == a.Roots[0] {
				t.Fatalf("half %d: %d", to, code)
			}
			keys, values := walked(t, out, 0)
			if !slices.Equal(keys, []string{"5#2", "2:3", "2:4", `"a"`}) || !slices.Equal(values, []string{"4#1", `"a value"`, `"a"`, `"a value"`}) {
				t.Error("the table has", keys, values)
			}
			got, _ := impl.GetKey(out, 0, 2, 3)
			if text, ok := impl.TextOf(got, 3); !ok || text != "a value" {
				t.Error("with the text is got", got.Roots[3])
			}
		}
	}
}

// Whatever was copied between, the same is told: of one run of calls each answer, with each thing done between.
func TestOrderWhateverWasCopied(t *testing.T) {
	t.Parallel()
	run := func(a impl.Arena, between between) []string {
		var told []string
		l := ledgerOf(a)
		for i := range 2 * cabinetKeys {
			key, from := (i*7)%cabinetKeys, (i*i)%cabinetKeys
			if i%5 == 4 {
				from = l.none()
			}
			l.set(t, between.name, 0, key, from)
			l.Arena = between.do(l.Arena)
			keys, values := walked(t, l.Arena, 0)
			told = append(append(append(told, "then"), keys...), values...)
			l.Arena = between.do(l.Arena)
		}
		return told
	}
	want := run(cabinet(700, 0), betweens()[0])
	if len(want) < 300 {
		t.Fatal("too little is told", len(want))
	}
	for to := range 2 {
		for stage, a := range stages(cabinet, 700, to) {
			for _, between := range betweens() {
				if told := run(a, between); !slices.Equal(told, want) {
					t.Errorf("half %d, %s, %s between: it is told\n%v\nwant\n%v", to, stage, between.name, told, want)
				}
			}
		}
	}
}
