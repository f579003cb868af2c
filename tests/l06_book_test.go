package tests

import (
	"fmt"
	"math/rand"
	"slices"
	"testing"

	"loop.example/g00101/impl"
)

// thing is what a key or a value is, wherever it lies: its tag and a number (of what has a serial that), or a text's bytes.
type thing struct {
	tag, n int
	text   string
}

// thingOf is what a Root is that is no box.
func thingOf(a impl.Arena, r int) thing {
	v := a.Roots[r]
	switch v.Tag {
	case impl.TStr:
		s, _ := impl.TextOf(a, r)
		return thing{tag: v.Tag, text: s}
	case impl.TTab, impl.TFun, impl.TCo:
		return thing{tag: v.Tag, n: impl.SerialOf(a, r)}
	}
	return thing{tag: v.Tag, n: v.N}
}

func numThing(n int) thing { return thing{tag: impl.TInt, n: n} }

func (x thing) hash() int {
	switch x.tag {
	case impl.TInt:
		return int(uint64(x.n) % 1000003)
	case impl.TLib:
		return x.n + 7
	case impl.TStr:
		h := 5381
		for _, b := range []byte(x.text) {
			h = (h*33 + int(b)) % 1000003
		}
		return h
	}
	return x.n
}

// book is a table of things without places, by the document's words; an entry's key that is the zero thing is empty.
type book struct {
	keys, values []thing
}

func (b *book) used() int {
	n := 0
	for _, k := range b.keys {
		if k != (thing{}) {
			n++
		}
	}
	return n
}

// place is the entry that a key has or would have; the book has one that is empty.
func (b *book) place(k thing) int {
	i := k.hash() % len(b.keys)
	for b.keys[i] != k && b.keys[i] != (thing{}) {
		i = (i + 1) % len(b.keys)
	}
	return i
}

func (b *book) find(k thing) int {
	if k == (thing{}) {
		return -1
	}
	return slices.Index(b.keys, k)
}

func (b *book) get(k thing) thing {
	if i := b.find(k); i >= 0 {
		return b.values[i]
	}
	return thing{}
}

// list has the keys and the values, in the order in which NextKey tells them.
func (b *book) list() (keys []thing, values []thing) {
	for i, k := range b.keys {
		if k != (thing{}) && b.values[i] != (thing{}) {
			keys, values = append(keys, k), append(values, b.values[i])
		}
	}
	return keys, values
}

// set tells the code; where a new block is wanted it is NoMem if room lacks for it.
func (b *book) set(k thing, v thing, lacks bool) int {
	i := b.find(k)
	switch {
	case i >= 0:
		b.values[i] = v
	case v == thing{}:
	case 4*(b.used()+1) <= 3*len(b.keys):
		i = b.place(k)
		b.keys[i], b.values[i] = k, v
	default:
		keys, values := b.list()
		if len(keys)+1 > 48 {
			return impl.Bad
		}
		if lacks {
			return impl.NoMem
		}
		b.renew(append(keys, k), append(values, v))
	}
	return impl.Done
}

func (b *book) renew(keys []thing, values []thing) {
	capacity := 4
	for 3*capacity < 4*len(keys) {
		capacity *= 2
	}
	b.keys, b.values = make([]thing, capacity), make([]thing, capacity)
	for i, k := range keys {
		at := b.place(k)
		b.keys[at], b.values[at] = k, values[i]
	}
}

func (b *book) border() int {
	n := 0
	for b.get(numThing(n+1)) != (thing{}) {
		n++
	}
	return n
}

// ledger is an arena, and what each of its tables has, by its serial. Its last two Roots are for going through them, the one ahead of them is nothing.
type ledger struct {
	impl.Arena
	books map[int]*book
}

func ledgerOf(a impl.Arena) *ledger {
	return &ledger{a, map[int]*book{}}
}

// twin is the ledger with books of its own.
func (l *ledger) twin() *ledger {
	out := ledgerOf(l.Arena)
	for serial, b := range l.books {
		out.books[serial] = &book{slices.Clone(b.keys), slices.Clone(b.values)}
	}
	return out
}

func (l *ledger) none() int { return len(l.Roots) - 3 }

// book is that of the table that a Root is.
func (l *ledger) book(r int) *book {
	serial := impl.SerialOf(l.Arena, r)
	if l.books[serial] == nil {
		l.books[serial] = &book{}
	}
	return l.books[serial]
}

// set sets a key in the arena and in the book, and holds them against each other.
func (l *ledger) set(t *testing.T, name string, r int, key int, from int) int {
	t.Helper()
	b := l.book(r)
	k, v := thingOf(l.Arena, key), thingOf(l.Arena, from)
	out, code := impl.SetKey(l.Arena, r, key, from)
	if want := b.set(k, v, code == impl.NoMem); code != want {
		t.Fatalf("%s: %v set to %v is %d, want %d", name, k, v, code, want)
	}
	if code == impl.Bad && !sameArena(out, l.Arena) {
		t.Fatalf("%s: %v set to %v is Bad, and not handed back", name, k, v)
	}
	l.Arena = out
	l.check(t, name, r)
	return code
}

// number sets a number to a number, by way of two of the last Roots.
func (l *ledger) number(t *testing.T, name string, r int, key int, value int) int {
	t.Helper()
	k, v := len(l.Roots)-2, len(l.Roots)-1
	l.Arena, _ = impl.SetRoot(l.Arena, k, num(key))
	l.Arena, _ = impl.SetRoot(l.Arena, v, num(value))
	return l.set(t, fmt.Sprint(name, ", ", key), r, k, v)
}

// erase sets a number to nothing.
func (l *ledger) erase(t *testing.T, name string, r int, key int) {
	t.Helper()
	k := len(l.Roots) - 2
	l.Arena, _ = impl.SetRoot(l.Arena, k, num(key))
	l.set(t, fmt.Sprint(name, ", ", key, " to nothing"), r, k, l.none())
}

// get holds what is got with a Root as the key against the book; it comes into the last Root.
func (l *ledger) get(t *testing.T, name string, r int, key int) {
	t.Helper()
	into := len(l.Roots) - 1
	k := thingOf(l.Arena, key)
	out, ok := impl.GetKey(l.Arena, r, key, into)
	if got, want := thingOf(out, into), l.book(r).get(k); !ok || got != want || !impl.ArenaOk(out) {
		t.Fatalf("%s: with %v is got %v, %v, want %v", name, k, got, ok, want)
	}
	l.Arena = out
}

// check: a table is told as its book says, with nothing changed by telling; its keys come in the book's order.
func (l *ledger) check(t *testing.T, name string, r int) {
	t.Helper()
	b, was := l.book(r), allOf(l.Arena)
	n, m := impl.Capacity(l.Arena, r)
	if n != len(b.keys) || m != b.used() || impl.Border(l.Arena, r) != b.border() {
		t.Fatalf("%s: the capacity is %d, %d, the border %d, want %d, %d, %d", name, n, m, impl.Border(l.Arena, r), len(b.keys), b.used(), b.border())
	}
	if !impl.ArenaOk(l.Arena) || !sameArena(whole(l.Arena), was) {
		t.Fatalf("%s: the arena is not right, or changed by telling", name)
	}
	l.walk(t, name, r, between{"nothing", func(a impl.Arena) impl.Arena { return a }})
}

// walk goes through a table from key to key, with something done between each two steps; the ledger's own arena stays as it is.
func (l *ledger) walk(t *testing.T, name string, r int, between between) {
	t.Helper()
	a, k, v := l.Arena, len(l.Roots)-2, len(l.Roots)-1
	a, _ = impl.SetRoot(a, k, impl.Val{})
	keys, values := l.book(r).list()
	for i := range len(keys) + 1 {
		next, ok := impl.NextKey(a, r, k, k, v)
		if !ok {
			t.Fatalf("%s: there is nothing behind the key %d", name, i)
		}
		var key, value thing
		if i < len(keys) {
			key, value = keys[i], values[i]
		}
		if thingOf(next, k) != key || thingOf(next, v) != value {
			t.Fatalf("%s, with %s between: the key %d is %v, its value %v, want %v, %v", name, between.name, i, thingOf(next, k), thingOf(next, v), key, value)
		}
		a = between.do(next)
	}
}

// The book itself, by hand.
func TestBook(t *testing.T) {
	b := &book{}
	for i, n := range []int{6, 1, 2} {
		if b.set(numThing(n), numThing(10*n), false) != impl.Done || len(b.keys) != 4 || b.used() != i+1 {
			t.Fatal("set", n)
		}
	}
	if keys, _ := b.list(); !slices.Equal(keys, []thing{numThing(1), numThing(6), numThing(2)}) || b.border() != 2 {
		t.Error("the book has", keys)
	}
	if b.set(numThing(3), numThing(1), true) != impl.NoMem || b.used() != 3 || b.get(numThing(6)) != numThing(60) {
		t.Error("no room")
	}
}

// muddle is a ledger that is written into by chance: the Roots 0 to 3 are tables, those behind them keys and values of all kinds.
type muddle struct {
	*ledger
	r *rand.Rand
}

const muddleTables = 4

func newMuddle(r *rand.Rand, semi int, to int) *muddle {
	a := dirty(semi, to, impl.MaxRoots)
	m := &muddle{ledgerOf(a), r}
	for i := range m.none() {
		if i < muddleTables {
			m.Arena, _ = impl.NewTab(m.Arena, i)
			continue
		}
		m.turn(i)
	}
	return m
}

// turn makes another thing of a Root, most often one that may be there already.
func (m *muddle) turn(into int) {
	switch m.r.Intn(9) {
	case 0, 1, 2:
		m.Arena, _ = impl.SetRoot(m.Arena, into, num(m.r.Intn(30)-3))
	case 3:
		m.Arena, _ = impl.SetRoot(m.Arena, into, num(m.r.Intn(3)*1000003+m.r.Intn(3)))
	case 4:
		m.Arena, _ = impl.SetRoot(m.Arena, into, impl.Val{Tag: impl.TLib, N: 1 + m.r.Intn(20)})
	case 5:
		m.Arena, _ = impl.SetRoot(m.Arena, into, impl.Val{Tag: impl.TBool, N: m.r.Intn(2)})
	case 6:
		m.Arena, _ = impl.PutText(m.Arena, []string{"", "a", "b", "ab", "\xff", motley(40, 1)}[m.r.Intn(6)], into)
	case 7:
		m.Arena, _ = impl.NewFun(m.Arena, 1, nil, into)
	case 8:
		m.Arena, _ = impl.MoveRoot(m.Arena, into, m.r.Intn(muddleTables))
	}
}

// act makes one call by chance, and tells its code; what is made anew is a table of its own.
func (m *muddle) act(t *testing.T) int {
	t.Helper()
	tab := m.r.Intn(muddleTables)
	key := muddleTables + m.r.Intn(m.none()-muddleTables)
	from := muddleTables + m.r.Intn(m.none()-muddleTables+1) // the last one is nothing
	switch m.r.Intn(12) {
	case 0, 1:
		m.turn(key)
	case 2:
		m.get(t, "by chance", tab, key)
	case 3:
		b := betweens()[m.r.Intn(len(betweens()))]
		m.Arena = b.do(m.Arena)
		m.check(t, "by chance, behind "+b.name, tab)
	case 4:
		m.walk(t, "by chance", tab, betweens()[m.r.Intn(len(betweens()))])
	case 5:
		if m.r.Intn(6) == 0 {
			var code int
			m.Arena, code = impl.NewTab(m.Arena, tab)
			return code
		}
		return m.set(t, "by chance", tab, key, m.none())
	default:
		return m.set(t, "by chance", tab, key, from)
	}
	return impl.Done
}

// A long run of what is set, got and gone through, while cycles begin and end: each table is as its book says, until room lacks, and then still.
func TestTablesThroughManyCycles(t *testing.T) {
	t.Parallel()
	r := rand.New(rand.NewSource(6666))
	flips, lacks := 0, 0
	for range 10 {
		m := newMuddle(r, 300+r.Intn(400), r.Intn(2))
		for range 400 {
			was := m.To
			if m.act(t) == impl.NoMem {
				lacks++
			}
			if m.To != was {
				flips++
			}
		}
		for tab := range muddleTables {
			m.check(t, "behind a long run", tab)
		}
	}
	if flips < 100 || lacks < 50 {
		t.Error("too few of some:", flips, "flips,", lacks, "times no room")
	}
}
