package tests

import (
	"math/rand"
	"strings"
	"testing"

	"loop.example/g00101/impl"
)

// garden is a right arena that is grown by chance, and its objects by kind.
type garden struct {
	impl.Arena
	r      *rand.Rand
	places map[int][]int
}

func (g *garden) pick(kind int) int {
	list := g.places[kind]
	return list[g.r.Intn(len(list))]
}

// value is of one of these tags; where there is no object of its kind, or it is none of a reference, any that is no reference.
func (g *garden) value(tags ...int) impl.Val {
	kinds := map[int]int{impl.TStr: impl.KStr, impl.TTab: impl.KTab, impl.TFun: impl.KFun, impl.TCo: impl.KCo, impl.TCell: impl.KCell}
	tag := tags[g.r.Intn(len(tags))]
	if kind, isRef := kinds[tag]; isRef && len(g.places[kind]) > 0 {
		return ref(tag, g.pick(kind))
	}
	switch g.r.Intn(4) {
	case 0:
		return impl.Val{Tag: impl.TBool, N: g.r.Intn(2)}
	case 1:
		return num(g.r.Intn(400) - 200)
	case 2:
		return impl.Val{Tag: impl.TLib, N: 1 + g.r.Intn(20)}
	}
	return impl.Val{}
}

func anyTags() []int {
	return []int{impl.TNil, impl.TStr, impl.TTab, impl.TFun, impl.TCo, impl.TCell, impl.TCell, impl.TTab}
}

func keyTags() []int {
	return []int{impl.TNil, impl.TInt, impl.TStr, impl.TTab, impl.TFun, impl.TCo}
}

// sow lays objects of all kinds, their slots nothing as yet.
func (g *garden) sow() {
	l := &layer{g.Words, g.Top}
	end := g.To*g.Semi + g.Semi
	put := func(kind int, size int, lay func() int) {
		if l.at+size+1 <= end {
			g.places[kind] = append(g.places[kind], lay())
		}
	}
	serial := func() int { g.Serial += 1 + g.r.Intn(2); return g.Serial - 1 }
	put(impl.KCell, 2, func() int { return l.cell(impl.Val{}) })
	cell := ref(impl.TCell, g.pick(impl.KCell))
	for range g.r.Intn(60) {
		switch g.r.Intn(8) {
		case 0, 1:
			s := strings.Repeat("ab", 20)[g.r.Intn(2):][:g.r.Intn(30)]
			put(impl.KStr, 1+(len(s)+7)/8, func() int { return l.text(s) })
		case 2, 3:
			put(impl.KTab, 3, func() int { return l.table(serial(), 0, impl.Val{}) })
		case 4:
			capacity := 4 << g.r.Intn(3)
			put(impl.KBlk, 4*capacity, func() int { return l.block(capacity) })
		case 5:
			cells := make([]impl.Val, g.r.Intn(4))
			for i := range cells {
				cells[i] = cell
			}
			put(impl.KFun, 1+2*len(cells), func() int { return l.fun(serial(), uint64(g.r.Intn(256)), cells...) })
		case 6:
			put(impl.KCell, 2, func() int { return l.cell(impl.Val{}) })
		case 7:
			if g.r.Intn(5) == 0 {
				put(impl.KCo, 126, func() int { return l.co(serial(), [4]uint64{uint64(g.r.Intn(5)), uint64(g.r.Intn(61))}, impl.Val{}) })
			}
		}
	}
	g.Top = l.at
}

func (g *garden) lay(at int, v impl.Val) {
	copy(g.Words[at:], pairs(v))
}

func (g *garden) bind() {
	for _, at := range g.places[impl.KCell] {
		g.lay(at+1, g.value(anyTags()...))
	}
	for _, at := range g.places[impl.KFun] {
		h, _ := impl.ReadHead(g.Words[at])
		for _, slot := range impl.Slots(h.Kind, h.Size) {
			g.lay(at+slot, ref(impl.TCell, g.pick(impl.KCell)))
		}
	}
	for _, at := range g.places[impl.KCo] {
		if g.r.Intn(2) == 0 {
			g.lay(at+5, ref(impl.TCo, g.pick(impl.KCo)))
		}
		for i := range int(g.Words[at+2]) {
			g.lay(at+7+2*i, g.value(anyTags()...))
		}
	}
	blocks := g.r.Perm(len(g.places[impl.KBlk]))
	for i, n := range blocks {
		block := g.places[impl.KBlk][n]
		g.fill(block, g.r.Intn(40))
		if i < len(g.places[impl.KTab]) && g.r.Intn(5) > 0 {
			table := g.places[impl.KTab][i]
			g.lay(table+2, ref(impl.TBlk, block))
			g.Words[table+1] = uint64(g.used(block))
		}
	}
}

// fill lays keys into a block, each where it would be found.
func (g *garden) fill(block int, times int) {
	m := model{g.Arena, map[int]impl.Head{}, map[int]int{}, map[int]int{}}
	m.point2()
	capacity := m.objects[block].Size / 4
	for range times {
		key := g.value(keyTags()...)
		if key.Tag == impl.TNil || 4*(g.used(block)+1) > 3*capacity {
			continue
		}
		for i := m.hash(key) % capacity; ; i = (i + 1) % capacity {
			there, _ := impl.GetVal(g.Words, block+1+4*i)
			if there.Tag == impl.TNil || m.same(there, key) {
				g.lay(block+1+4*i, key)
				g.lay(block+3+4*i, g.value(keyTags()...))
				break
			}
		}
	}
}

func (g *garden) used(block int) int {
	h, _ := impl.ReadHead(g.Words[block])
	n := 0
	for i := range h.Size / 4 {
		if g.Words[block+1+4*i] != impl.TNil {
			n++
		}
	}
	return n
}

func grown(r *rand.Rand) impl.Arena {
	g := &garden{newArena(impl.MinSemi+r.Intn(600), r.Intn(2)), r, map[int][]int{}}
	g.sow()
	g.bind()
	g.Roots = make([]impl.Val, r.Intn(8))
	for i := range g.Roots {
		g.Roots[i] = g.value(anyTags()...)
	}
	return g.Arena
}

// changed is an arena as a program would change it between two steps of copying: a new box, a Root moved or set.
func changed(r *rand.Rand, a impl.Arena) impl.Arena {
	if len(a.Roots) == 0 {
		return a
	}
	to, from := r.Intn(len(a.Roots)), r.Intn(len(a.Roots))
	switch r.Intn(3) {
	case 0:
		a, _ = impl.SetRoot(a, to, num(r.Intn(9)))
	case 1:
		a, _ = impl.MoveRoot(a, to, from)
	case 2:
		if impl.Free(a) < 3 {
			break
		}
		a, _ = impl.MoveRoot(a, to, to) // in words of its own
		l := &layer{a.Words, a.Top}
		a.Roots[to] = ref(impl.TCell, l.cell(a.Roots[from]))
		a.Top = l.at
	}
	return a
}

// Arenas of all kinds of objects, in either half, with circles and garbage: each goes through cycles, step by step, while it is changed.
func TestCopyingWhileItIsChanged(t *testing.T) {
	t.Parallel()
	r := rand.New(rand.NewSource(33))
	flips, ends := 0, 0
	for range 100 {
		a := grown(r)
		if !impl.ArenaOk(a) || !modelOk(a) {
			t.Fatalf("what has grown is not right: %+v", a)
		}
		checkCopying(t, a)
		for range 25 {
			ran := a.Cycle
			if !ran {
				a, _ = impl.Flip(a)
				flips++
			} else {
				a, _ = impl.CopyStep(a, r.Intn(4))
			}
			if ran && !a.Cycle {
				ends++
			}
			checkCopying(t, a)
			a = changed(r, a)
		}
	}
	if flips < 100 || ends < 100 {
		t.Error("too few cycles:", flips, "begun", ends, "ended")
	}
}
