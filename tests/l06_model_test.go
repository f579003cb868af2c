package tests

import (
	"fmt"
	"maps"
	"math/rand"
	"slices"
	"testing"

	"loop.example/g00101/impl"
)

// The model of tables: by the document's words, from the models of chapters 2 to 4 alone.

// modelTable is a table of a right arena, and where its block lies; without one both numbers are 0.
type modelTable struct {
	model
	at, block, capacity int
}

func tableThere(a impl.Arena, r int) modelTable {
	m := model{a, map[int]impl.Head{}, map[int]int{}, map[int]int{}}
	m.point2()
	m.point3()
	t := modelTable{model: m, at: a.Roots[r].N}
	if slot, _ := impl.GetVal(a.Words, t.at+2); slot.Tag == impl.TBlk {
		t.block = m.come(slot)
		t.capacity = m.objects[t.block].Size / 4
	}
	return t
}

func (t modelTable) key(i int) impl.Val {
	v, _ := impl.GetVal(t.Words, t.block+1+4*i)
	return v
}

func (t modelTable) value(i int) impl.Val {
	v, _ := impl.GetVal(t.Words, t.block+3+4*i)
	return v
}

func (t modelTable) put(i int, key impl.Val, value impl.Val) {
	copy(t.Words[t.block+1+4*i:], pairs(key, value))
}

// seek is the entry that a key would have: the first from where its hash says that is empty or has it.
func (t modelTable) seek(key impl.Val) int {
	i := t.hash(key) % t.capacity
	for t.key(i).Tag != impl.TNil && !t.same(t.key(i), key) {
		i++
		if i == t.capacity {
			i = 0
		}
	}
	return i
}

// has is the entry with that key, looked for from the first one on, not by its hash; -1 when there is none.
func (t modelTable) has(key impl.Val) int {
	for i := range t.capacity {
		if t.key(i).Tag != impl.TNil && t.same(t.key(i), key) {
			return i
		}
	}
	return -1
}

// living are the entries that have a key and a value.
func (t modelTable) living() []int {
	var list []int
	for i := range t.capacity {
		if t.key(i).Tag != impl.TNil && t.value(i).Tag != impl.TNil {
			list = append(list, i)
		}
	}
	return list
}

// loadedAt loads the slot at a place.
func loadedAt(a impl.Arena, place int) (impl.Arena, impl.Val) {
	m := moverOf(a)
	v, _ := impl.GetVal(m.Words, place)
	if m.Cycle {
		v = m.forward(v)
		copy(m.Words[place:], pairs(v))
	}
	return m.Arena, v
}

// loadedTable has the slot of the table that a Root is loaded, and nothing else done.
func loadedTable(a impl.Arena, r int) impl.Arena {
	a, _ = loadedAt(a, a.Roots[r].N+2)
	return a
}

func modelNewTab(a impl.Arena, into int) (impl.Arena, int) {
	if !modelOk(a) || !areRoots(a, into) || a.Serial == 1000000000 {
		return a, impl.Bad
	}
	a, at, code := modelAsk(a, impl.KTab, 3)
	if code == impl.Done {
		a.Roots[into] = ref(impl.TTab, at)
	}
	return a, code
}

func modelGet(a impl.Arena, r int, key int, into int) (impl.Arena, bool) {
	if !modelOk(a) || !areRoots(a, r, key, into) || a.Roots[r].Tag != impl.TTab || a.Roots[key].Tag == impl.TCell {
		return a, false
	}
	a = loadedTable(a, r)
	t := tableThere(a, r)
	v := impl.Val{}
	if i := t.has(a.Roots[key]); i >= 0 {
		a, v = loadedAt(a, t.block+3+4*i)
	}
	a.Roots[into] = v
	return a, true
}

func modelSet(a impl.Arena, r int, key int, from int) (impl.Arena, int) {
	if !modelOk(a) || !areRoots(a, r, key, from) || a.Roots[r].Tag != impl.TTab {
		return a, impl.Bad
	}
	if a.Roots[key].Tag == impl.TNil || a.Roots[key].Tag == impl.TCell || a.Roots[from].Tag == impl.TCell {
		return a, impl.Bad
	}
	was := a
	a = loadedTable(a, r)
	t := tableThere(a, r)
	k, v := a.Roots[key], a.Roots[from]
	used := int(a.Words[t.at+1])
	switch i := t.has(k); {
	case i >= 0:
		t.put(i, t.key(i), v)
	case v.Tag == impl.TNil:
	case 4*(used+1) <= 3*t.capacity:
		t.put(t.seek(k), k, v)
		a.Words[t.at+1]++
	case len(t.living())+1 > 48:
		return was, impl.Bad
	default:
		return modelRenew(a, r, key, from, len(t.living())+1)
	}
	return a, impl.Done
}

// modelRenew: nothing is loaded behind the asking; the old block is looked at where it lies by then.
func modelRenew(a impl.Arena, r int, key int, from int, n int) (impl.Arena, int) {
	capacity := 4
	for 4*n > 3*capacity {
		capacity *= 2
	}
	a, at, code := modelAsk(a, impl.KBlk, 4*capacity)
	if code != impl.Done {
		return a, code
	}
	old := tableThere(a, r)
	made := old
	made.block, made.capacity = at, capacity
	for _, i := range old.living() {
		made.put(made.seek(old.key(i)), old.key(i), old.value(i))
	}
	made.put(made.seek(a.Roots[key]), a.Roots[key], a.Roots[from])
	a.Words[old.at+1] = uint64(n)
	copy(a.Words[old.at+2:], pairs(ref(impl.TBlk, at)))
	return a, impl.Done
}

func modelNext(a impl.Arena, r int, key int, into int, value int) (impl.Arena, bool) {
	if !modelOk(a) || !areRoots(a, r, key, into, value) || a.Roots[r].Tag != impl.TTab || into == value {
		return a, false
	}
	first := 0
	if k := a.Roots[key]; k.Tag != impl.TNil {
		i := tableThere(a, r).has(k)
		if i < 0 {
			return a, false
		}
		first = i + 1
	}
	a = loadedTable(a, r)
	t := tableThere(a, r)
	var k, v impl.Val
	for i := first; i < t.capacity; i++ {
		if t.value(i).Tag != impl.TNil {
			a, k = loadedAt(a, t.block+1+4*i)
			a, v = loadedAt(a, t.block+3+4*i)
			break
		}
	}
	a.Roots[into], a.Roots[value] = k, v
	return a, true
}

func modelBorder(a impl.Arena, r int) int {
	if !modelOk(a) || !areRoots(a, r) || a.Roots[r].Tag != impl.TTab {
		return -1
	}
	t := tableThere(a, r)
	for n := 0; ; n++ {
		if i := t.has(num(n + 1)); i < 0 || t.value(i).Tag == impl.TNil {
			return n
		}
	}
}

func modelCapacity(a impl.Arena, r int) (int, int) {
	if !modelOk(a) || !areRoots(a, r) || a.Roots[r].Tag != impl.TTab {
		return 0, 0
	}
	t := tableThere(a, r)
	return t.capacity, int(a.Words[t.at+1])
}

// tell is what a Root is, wherever it lies.
func tell(a impl.Arena, r int) string {
	v := a.Roots[r]
	if s, ok := impl.TextOf(a, r); ok {
		return fmt.Sprintf("%q", s)
	}
	if serial := impl.SerialOf(a, r); serial != 0 {
		return fmt.Sprint(v.Tag, "#", serial)
	}
	return fmt.Sprint(v.Tag, ":", v.N)
}

// walked are the keys and the values of a table, as NextKey tells them, one behind the other; the last two Roots are written over.
func walked(t *testing.T, a impl.Arena, r int) (keys []string, values []string) {
	t.Helper()
	k, v := len(a.Roots)-2, len(a.Roots)-1
	a, _ = impl.SetRoot(a, k, impl.Val{})
	for range impl.MaxBlk + 1 {
		next, ok := impl.NextKey(a, r, k, k, v)
		if !ok || !impl.ArenaOk(next) {
			t.Fatalf("NextKey of %s is %v", tell(a, k), ok)
		}
		a = next
		if a.Roots[k].Tag == impl.TNil {
			return keys, values
		}
		keys, values = append(keys, tell(a, k)), append(values, tell(a, v))
	}
	t.Fatal("the keys have no end")
	return nil, nil
}

// withSpare is an arena with two Roots more, for walked.
func withSpare(a impl.Arena) impl.Arena {
	a.Roots = append(slices.Clone(a.Roots), impl.Val{}, impl.Val{})
	return a
}

// contents are what a table has, key by key.
func contents(t *testing.T, a impl.Arena, r int) map[string]string {
	t.Helper()
	keys, values := walked(t, withSpare(a), r)
	all := map[string]string{}
	for i, k := range keys {
		if _, twice := all[k]; twice {
			t.Fatalf("the key %s comes twice", k)
		}
		all[k] = values[i]
	}
	return all
}

// tableCalls are numbers of Roots for one call of each function of the chapter.
type tableCalls struct{ r, key, from, into, value int }

// checkTables holds all functions of the chapter against the model at one right arena.
func checkTables(t *testing.T, a impl.Arena, c tableCalls) {
	t.Helper()
	in := roomy(a)
	was := allOf(in)

	out, code := impl.NewTab(in, c.into)
	want, answer := modelNewTab(a, c.into)
	checkDoor(t, fmt.Sprint("NewTab ", c), a, out, code, want, answer)
	checkRoom(t, a, 4, out, code)
	checkOwn(t, out, whole(in), was)

	out, ok := impl.GetKey(in, c.r, c.key, c.into)
	want, yes := modelGet(a, c.r, c.key, c.into)
	checkDoor(t, fmt.Sprint("GetKey ", c), a, out, ok, want, yes)
	checkOwn(t, out, whole(in), was)

	out, code = impl.SetKey(in, c.r, c.key, c.from)
	want, answer = modelSet(a, c.r, c.key, c.from)
	checkDoor(t, fmt.Sprint("SetKey ", c), a, out, code, want, answer)
	checkSet(t, a, c, out, code)
	checkOwn(t, out, whole(in), was)

	out, ok = impl.NextKey(in, c.r, c.key, c.into, c.value)
	want, yes = modelNext(a, c.r, c.key, c.into, c.value)
	checkDoor(t, fmt.Sprint("NextKey ", c), a, out, ok, want, yes)
	checkOwn(t, out, whole(in), was)

	if got, want := impl.Border(in, c.r), modelBorder(a, c.r); got != want {
		t.Fatalf("Border %d is %d, want %d", c.r, got, want)
	}
	capacity, used := modelCapacity(a, c.r)
	if n, m := impl.Capacity(in, c.r); n != capacity || m != used {
		t.Fatalf("Capacity %d is %d, %d, want %d, %d", c.r, n, m, capacity, used)
	}
	if !sameArena(whole(in), was) {
		t.Fatal("the argument was written into")
	}
}

// checkSet: what was set is got, and all else that the table has is as it was; with NoMem all that can be reached.
func checkSet(t *testing.T, a impl.Arena, c tableCalls, out impl.Arena, code int) {
	t.Helper()
	if code == impl.NoMem {
		checkStays(t, "NoMem", out, taleOf(a))
	}
	if code != impl.Done || loose(a, c.r) {
		return
	}
	key, value := tell(a, c.key), tell(a, c.from)
	want := contents(t, a, c.r)
	delete(want, key)
	if a.Roots[c.from].Tag != impl.TNil {
		want[key] = value
	}
	if got := contents(t, out, c.r); !maps.Equal(got, want) {
		t.Fatalf("with %s set to %s the table has %v, want %v", key, value, got, want)
	}
	got, ok := impl.GetKey(out, c.r, c.key, c.key)
	if !ok || tell(got, c.key) != value {
		t.Fatalf("%s is set to %s, and %s is got", key, value, tell(got, c.key))
	}
}

// loose tells whether an entry without a key has a value, as no call leaves it: it ends a walk.
func loose(a impl.Arena, r int) bool {
	there := tableThere(a, r)
	for i := range there.capacity {
		if there.key(i).Tag == impl.TNil && there.value(i).Tag != impl.TNil {
			return true
		}
	}
	return false
}

// someTableCalls are numbers by chance: most often r is a table, if there is one, and the others are Roots.
func someTableCalls(r *rand.Rand, a impl.Arena) tableCalls {
	some := func() int { return r.Intn(len(a.Roots)+2) - 1 }
	c := tableCalls{r: some(), key: some(), from: some(), into: some(), value: some()}
	var tables []int
	for i, v := range a.Roots {
		if v.Tag == impl.TTab {
			tables = append(tables, i)
		}
	}
	if len(tables) > 0 && r.Intn(8) > 0 {
		c.r = tables[r.Intn(len(tables))]
	}
	return c
}

func TestTablesOfTheSamples(t *testing.T) {
	r := rand.New(rand.NewSource(6))
	for _, s := range samples() {
		for range 60 {
			checkTables(t, s.Arena, someTableCalls(r, s.Arena))
		}
	}
}

// turnedOver is the arena behind a call that may write; now and then new keys and values come into Roots, or a cycle is begun by hand. Where a table is to be filled most of the keys are new.
func turnedOver(r *rand.Rand, a impl.Arena, c tableCalls, fill bool) (impl.Arena, int) {
	code := impl.Done
	if last := len(a.Roots) - 1; fill && c.r != last {
		a, _ = impl.SetRoot(a, last, num(r.Intn(200)))
		c.key, c.from = last, last
	}
	switch r.Intn(16) {
	case 0:
		a, code = impl.NewTab(a, c.into)
	case 1:
		a, _ = impl.GetKey(a, c.r, c.key, c.into)
	case 2:
		a, _ = impl.NextKey(a, c.r, c.key, c.into, c.value)
	case 3:
		a, _ = impl.SetRoot(a, c.into, num(r.Intn(60)-20))
	case 4:
		a, _ = impl.SetRoot(a, c.into, impl.Val{})
	case 5:
		a, code = impl.PutText(a, motley(r.Intn(20), 'a'), c.into)
	case 6:
		a, code = impl.NewFun(a, 1, nil, c.into)
	case 7:
		a, _ = impl.Flip(a)
	case 8:
		a, _ = impl.CopyStep(a, r.Intn(3))
	default:
		a, code = impl.SetKey(a, c.r, c.key, c.from)
	}
	return a, code
}

// Arenas that are grown by chance, with tables among them whose keys are of all kinds, fill up call by call, while cycles begin and end.
func TestTablesOfWhatHasGrown(t *testing.T) {
	t.Parallel()
	r := rand.New(rand.NewSource(66))
	cycles, flips, lacks, refused := 0, 0, 0, 0
	for i := range 60 {
		a := grown(r)
		for len(a.Roots) < 8 {
			a.Roots = append(a.Roots, num(len(a.Roots)))
		}
		for range 80 {
			c := someTableCalls(r, a)
			checkTables(t, a, c)
			was := a
			var code int
			a, code = turnedOver(r, a, c, i%2 == 0)
			if a.Cycle {
				cycles++
			}
			if a.To != was.To {
				flips++
			}
			if code == impl.NoMem {
				lacks++
			}
			if code == impl.Bad {
				refused++
			}
		}
	}
	if cycles < 100 || flips < 50 || lacks < 20 || refused < 20 {
		t.Error("too few of some:", cycles, "cycles run,", flips, "flips,", lacks, "times no room,", refused, "refused")
	}
}

// Arenas that come of chance, right ones among them that no run of the program would leave behind.
func TestTablesOfTurnedSamples(t *testing.T) {
	t.Parallel()
	r := rand.New(rand.NewSource(666))
	right := 0
	for range 3000 {
		s := stillSample(impl.MinSemi, r.Intn(2))
		if r.Intn(3) > 0 {
			s = cycleSample(impl.MinSemi, s.To)
		}
		turnAtRandom(r, &s)
		if modelOk(s.Arena) {
			checkTables(t, s.Arena, someTableCalls(r, s.Arena))
			right++
			continue
		}
		checkNoTables(t, "a turned sample", s.Arena)
	}
	if right < 300 {
		t.Error("only", right, "were right")
	}
}
