package tests

import (
	"bytes"
	"encoding/binary"
	"fmt"
	"math"
	"math/big"
	"slices"
	"testing"

	"loop.example/g00101/impl"
)

// imageNumbers are the numbers of an arena's image, but the sum: by the document's words, one behind the other. The arena must have the places that it names.
func imageNumbers(a impl.Arena) []uint64 {
	cycle := uint64(0)
	if a.Cycle {
		cycle = 1
	}
	list := []uint64{uint64(a.Semi), uint64(a.To), uint64(a.Top), cycle, uint64(a.Scan), uint64(a.Old), uint64(a.Copied), uint64(a.Serial), uint64(len(a.Roots))}
	for _, v := range a.Roots {
		list = append(list, uint64(v.Tag), uint64(v.N))
	}
	for at := a.To*a.Semi + 1; at < a.Top; at++ {
		list = append(list, a.Words[at])
	}
	if a.Cycle {
		for at := (1-a.To)*a.Semi + 1; at < a.Old; at++ {
			list = append(list, a.Words[at])
		}
	}
	return list
}

// bytesOf are numbers of 8 bytes each, the lowest byte first.
func bytesOf(numbers ...uint64) []byte {
	var b []byte
	for _, n := range numbers {
		b = binary.LittleEndian.AppendUint64(b, n)
	}
	return b
}

// summed are the bytes of these numbers, and of their sum.
func summed(numbers ...uint64) []byte {
	sum, round := new(big.Int), new(big.Int).Lsh(big.NewInt(1), 64)
	for _, n := range numbers {
		sum.Add(sum, new(big.Int).SetUint64(n))
	}
	return append(bytesOf(numbers...), bytesOf(sum.Mod(sum, round).Uint64())...)
}

// blank is the arena with all words 0 that its image does not tell.
func blank(a impl.Arena) impl.Arena {
	words := make([]uint64, len(a.Words))
	tell := func(from int, to int) {
		for at := from; at < to; at++ {
			words[at] = a.Words[at]
		}
	}
	tell(a.To*a.Semi+1, a.Top)
	if a.Cycle {
		tell((1-a.To)*a.Semi+1, a.Old)
	}
	a.Words = words
	return a
}

// modelRestore reads number by number, and holds what comes of it against the bytes that it would have as an image.
func modelRestore(b []byte) (impl.Arena, bool) {
	if len(b) > 70000 || len(b)%8 != 0 {
		return impl.Arena{}, false
	}
	lacks := false
	next := func() uint64 {
		if len(b) < 8 {
			lacks = true
			return 0
		}
		n := binary.LittleEndian.Uint64(b)
		b = b[8:]
		return n
	}
	small := func() int {
		n := next()
		if n > math.MaxInt32 {
			lacks = true
			return 0
		}
		return int(n)
	}
	was := b
	a := impl.Arena{Semi: small(), To: small(), Top: small(), Cycle: small() != 0, Scan: small(), Old: small(), Copied: small(), Serial: small()}
	for range small() {
		if a.Roots = append(a.Roots, impl.Val{Tag: small(), N: int(next())}); lacks {
			break
		}
	}
	if lacks || a.Semi > 4000 || a.To > 1 {
		return impl.Arena{}, false
	}
	a.Words = make([]uint64, 2*a.Semi)
	fill := func(half int, to int) {
		for at := half*a.Semi + 1; at < to && at < half*a.Semi+a.Semi; at++ {
			a.Words[at] = next()
		}
	}
	fill(a.To, a.Top)
	if a.Cycle {
		fill(1-a.To, a.Old)
	}
	if lacks || !modelOk(a) || !bytes.Equal(summed(imageNumbers(a)...), was) {
		return impl.Arena{}, false
	}
	return a, true
}

// explorer goes from object to object by the document's words, from the model of chapter 2 alone.
type explorer struct{ model }

// explorerOf wants a right arena.
func explorerOf(a impl.Arena) explorer {
	m := model{a, map[int]impl.Head{}, map[int]int{}, map[int]int{}}
	m.point2()
	m.point3()
	return explorer{m}
}

// leadsTo are the objects that a place's slots lead to, by the slots' numbers.
func (e explorer) leadsTo(at int) map[int]int {
	list := map[int]int{}
	h := e.objects[at]
	for i, slot := range impl.Slots(h.Kind, h.Size) {
		if v, _ := impl.GetVal(e.Words, at+slot); impl.IsRef(v) {
			list[i] = e.come(v)
		}
	}
	return list
}

func (e explorer) kin(r int) []int {
	seen := map[int]bool{}
	var visit func(at int)
	visit = func(at int) {
		if seen[at] {
			return
		}
		seen[at] = true
		for _, to := range e.leadsTo(at) {
			visit(to)
		}
	}
	if impl.IsRef(e.Roots[r]) {
		visit(e.come(e.Roots[r]))
	}
	var serials []int
	for at := range seen {
		if n := e.objects[at].Serial; n > 0 {
			serials = append(serials, n)
		}
	}
	slices.Sort(serials)
	return serials
}

// ways are the ways to all objects that have a serial: of all ways of one length the least one is kept, then those that are longer by one are made of these.
func (e explorer) ways() map[int][]int {
	found := map[int][]int{}
	next := map[int][]int{}
	offer := func(at int, way []int) {
		if _, shorter := found[at]; shorter {
			return
		}
		if known, is := next[at]; !is || slices.Compare(way, known) < 0 {
			next[at] = way
		}
	}
	for r, v := range e.Roots {
		if impl.IsRef(v) {
			offer(e.come(v), []int{r})
		}
	}
	for len(next) > 0 {
		last := next
		next = map[int][]int{}
		for at, way := range last {
			found[at] = way
		}
		for at, way := range last {
			for slot, to := range e.leadsTo(at) {
				offer(to, append(slices.Clone(way), slot))
			}
		}
	}
	bySerial := map[int][]int{}
	for at, way := range found {
		if n := e.objects[at].Serial; n > 0 {
			bySerial[n] = way
		}
	}
	return bySerial
}

func (e explorer) census() []int {
	list := make([]int, 12)
	for at, h := range e.objects {
		if e.inUse(at) {
			list[2*h.Kind-2]++
			list[2*h.Kind-1] += h.Size + 1
		}
	}
	return list
}

// roomyBytes are bytes with something in the room behind them.
func roomyBytes(b []byte) []byte {
	return append(slices.Clone(b), 0xAA, 0xBB, 0xCC)[:len(b)]
}

// checkRestore holds Restore against the model at any bytes, and tells whether there is an arena.
func checkRestore(t *testing.T, name string, b []byte) (impl.Arena, bool) {
	t.Helper()
	in := roomyBytes(b)
	was := slices.Clone(in[:cap(in)])
	got, ok := impl.Restore(in)
	want, right := modelRestore(b)
	if ok != right || !sameArena(got, want) {
		t.Fatalf("%s: Restore is %v, want %v\n%+v\nwant\n%+v\nof\n%x", name, ok, right, got, want, b)
	}
	if !ok {
		if !slices.Equal(in[:cap(in)], was) {
			t.Fatalf("%s: written into", name)
		}
		return got, false
	}
	if !impl.ArenaOk(got) {
		t.Fatalf("%s: what is restored is not right: %+v", name, got)
	}
	if again, ok := impl.Image(got); !ok || !bytes.Equal(again, b) {
		t.Fatalf("%s: the image of what is restored is\n%x, %v\nwant\n%x", name, again, ok, b)
	}
	other, _ := impl.Restore(in)
	dirt := whole(other)
	for i := range dirt.Words {
		dirt.Words[i] = 0xBAD
	}
	for i := range dirt.Roots {
		dirt.Roots[i] = num(0xBAD)
	}
	if !slices.Equal(in[:cap(in)], was) || !sameArena(got, want) {
		t.Fatalf("%s: two answers share memory, or one does with the argument", name)
	}
	for i := range in[:cap(in)] {
		in[:cap(in)][i] = 0xEE
	}
	if !sameArena(got, want) {
		t.Fatalf("%s: the answer shares memory with the argument", name)
	}
	return got, true
}

// checkImage holds Image against the model at a right arena, and what is restored of it against the arena.
func checkImage(t *testing.T, name string, a impl.Arena) []byte {
	t.Helper()
	in := roomy(a)
	was := allOf(in)
	b, ok := impl.Image(in)
	want := summed(imageNumbers(a)...)
	if !ok || !bytes.Equal(b, want) {
		t.Fatalf("%s: Image is %v\n%x\nwant\n%x", name, ok, b, want)
	}
	other, _ := impl.Image(in)
	for i := range other[:cap(other)] {
		other[:cap(other)][i] = 0xEE
	}
	if !bytes.Equal(b, want) || !sameArena(whole(in), was) {
		t.Fatalf("%s: two answers share memory, or one does with the argument, which may be written into", name)
	}
	c, ok := checkRestore(t, name, b)
	if !ok || !sameArena(c, blank(a)) {
		t.Fatalf("%s: restored is %v\n%+v\nof\n%+v", name, ok, c, a)
	}
	said, _ := impl.ShapeOf(a)
	now, ok := impl.ShapeOf(c)
	if !ok || !impl.ShapeSame(now, said) {
		t.Fatalf("%s: restored, the shape is\n%v\nwant\n%v", name, linesOf(now), linesOf(said))
	}
	return b
}

// kinsOf tells all kin and all ways of an arena, by Roots and by serials.
func kinsOf(a impl.Arena) string {
	var kins, ways [][]int
	for r := range a.Roots {
		kins = append(kins, impl.Kin(a, r))
	}
	for serial := range a.Serial + 1 {
		way, ok := impl.Way(a, serial)
		if !ok {
			way = []int{-1}
		}
		ways = append(ways, way)
	}
	return fmt.Sprint(kins, ways)
}

// spoil writes over a list with its spare room, to be seen in whatever shares it.
func spoil(list []int) {
	for i := range list[:cap(list)] {
		list[:cap(list)][i] = 0xBAD
	}
}

// checkNumbers: a list is the one that is wanted, told anew each time, and nothing is written into the arena.
func checkNumbers(t *testing.T, name string, a impl.Arena, call func(a impl.Arena) []int, want []int) {
	t.Helper()
	in := roomy(a)
	was := allOf(in)
	got := call(in)
	if !slices.Equal(got, want) {
		t.Fatalf("%s is %v, want %v, of\n%+v", name, got, want, a)
	}
	spoil(call(in))
	if !slices.Equal(got, want) {
		t.Fatalf("%s: two answers share memory", name)
	}
	spoil(got)
	if !sameArena(whole(in), was) {
		t.Fatalf("%s: written into, or the answer shares memory", name)
	}
}

// wayTo is Way as checkNumbers wants it: nil where it is false.
func wayTo(t *testing.T, serial int) func(a impl.Arena) []int {
	t.Helper()
	return func(a impl.Arena) []int {
		way, ok := impl.Way(a, serial)
		if ok != (len(way) > 0) {
			t.Fatalf("Way %d: %v beside %v", serial, ok, way)
		}
		return way
	}
}

// checkKins holds Census, Kin and Way against the model at a right arena, and the latter two against themselves behind each move.
func checkKins(t *testing.T, name string, a impl.Arena) {
	t.Helper()
	e := explorerOf(a)
	checkNumbers(t, name+": Census", a, impl.Census, e.census())
	for r := range a.Roots {
		checkNumbers(t, fmt.Sprint(name, ": Kin ", r), a, func(a impl.Arena) []int { return impl.Kin(a, r) }, e.kin(r))
	}
	for _, r := range wrongRoots(len(a.Roots)) {
		if r >= 0 && r < len(a.Roots) {
			continue // MaxRoots may be a Root's number less than others
		}
		checkNumbers(t, fmt.Sprint(name, ": Kin ", r), a, func(a impl.Arena) []int { return impl.Kin(a, r) }, nil)
	}
	ways := e.ways()
	for serial := range min(a.Serial, 100) + 2 {
		checkNumbers(t, fmt.Sprint(name, ": Way ", serial), a, wayTo(t, serial), ways[serial])
	}
	for _, serial := range []int{math.MinInt, -1, impl.MaxSerial, impl.MaxSerial + 1, math.MaxInt} {
		checkNumbers(t, fmt.Sprint(name, ": Way ", serial), a, wayTo(t, serial), ways[serial])
	}
	if a.Serial > 100 {
		return
	}
	said := kinsOf(a)
	for _, move := range moves() {
		if now := kinsOf(move.do(a)); now != said {
			t.Fatalf("%s: behind %s the kin and ways are\n%s\nwere\n%s", name, move.name, now, said)
		}
	}
}
