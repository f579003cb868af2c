package tests

import (
	"math/rand"
	"slices"
	"strings"
	"testing"

	"loop.example/g00101/impl"
)

// The model of compiling goes down nowhere with what is seen: it knows of each node who has it as a Kid, climbs from a name up to
// its local, and leans on the numbering, which is the order of code for all but the beginning of a function. Code is put
// together from pieces in which jumps are told by how far they lead.

type codeModel struct {
	impl.Tree
	parent []int         // -1 of the Top
	named  map[int]int   // of an NName or NSet its local
	locals map[int][]int // of a function its locals
	ups    map[int][]int // of a function the locals that it has as Ups
	fns    []int         // the Top, and the NFns by their numbers
	texts  []string
}

func newCodeModel(tree impl.Tree) *codeModel {
	m := &codeModel{Tree: tree, parent: make([]int, len(tree.Nodes)), named: map[int]int{}, locals: map[int][]int{}, ups: map[int][]int{}, fns: []int{tree.Top}}
	m.parent[tree.Top] = -1
	for n, knot := range tree.Nodes {
		for _, kid := range knot.Kids {
			m.parent[kid] = n
		}
	}
	for n, knot := range tree.Nodes {
		switch knot.Kind {
		case impl.NFn:
			m.fns = append(m.fns, n)
		case impl.NText:
			if !slices.Contains(m.texts, knot.Text) {
				m.texts = append(m.texts, knot.Text)
			}
		case impl.NParam, impl.NLocal:
			f := m.function(n)
			m.locals[f] = append(m.locals[f], n)
		case impl.NName, impl.NSet:
			if local, ok := m.climb(n); ok {
				m.named[n] = local
				m.mark(n, local)
			}
		}
	}
	return m
}

// function is the one that a node stands in.
func (m *codeModel) function(n int) int {
	n = m.parent[n]
	for n != m.Top && m.Nodes[n].Kind != impl.NFn {
		n = m.parent[n]
	}
	return n
}

// climb is the local that a name names: the last one ahead of it in the blocks and functions that it stands in.
func (m *codeModel) climb(name int) (int, bool) {
	for n := name; n != m.Top; n = m.parent[n] {
		around := m.Nodes[m.parent[n]]
		if around.Kind != impl.NBlock && around.Kind != impl.NFn {
			continue
		}
		at := slices.Index(around.Kids, n)
		for i := at - 1; i >= 0; i-- {
			kid := m.Nodes[around.Kids[i]]
			if (kid.Kind == impl.NLocal || kid.Kind == impl.NParam) && kid.Text == m.Nodes[name].Text {
				return around.Kids[i], true
			}
		}
	}
	return 0, false
}

// mark: all functions from the one of the name up to that of the local have the local as an Up.
func (m *codeModel) mark(name int, local int) {
	for f := m.function(name); f != m.function(local); f = m.function(f) {
		if !slices.Contains(m.ups[f], local) {
			m.ups[f] = append(m.ups[f], local)
		}
	}
}

func (m *codeModel) slot(local int) int {
	return slices.Index(m.locals[m.function(local)], local)
}

func (m *codeModel) isBoxed(local int) bool {
	for _, ups := range m.ups {
		if slices.Contains(ups, local) {
			return true
		}
	}
	return false
}

func (m *codeModel) boxes(locals ...int) []impl.Ins {
	var out []impl.Ins
	for _, local := range locals {
		if m.isBoxed(local) {
			out = append(out, impl.Ins{Op: impl.OBox, A: m.slot(local)})
		}
	}
	return out
}

// use is the instruction for a local that a node names.
func (m *codeModel) use(n int, local int, plain int, boxed int, up int) impl.Ins {
	f := m.function(n)
	if i := slices.Index(m.ups[f], local); i >= 0 {
		return impl.Ins{Op: up, A: i}
	}
	if m.isBoxed(local) {
		return impl.Ins{Op: boxed, A: m.slot(local)}
	}
	return impl.Ins{Op: plain, A: m.slot(local)}
}

func one(op int, a int) []impl.Ins { return []impl.Ins{{Op: op, A: a}} }

// piece is the code of a node, with A of jumps being how far they lead from where they stand.
func (m *codeModel) piece(n int) []impl.Ins {
	knot := m.Nodes[n]
	var kids [][]impl.Ins
	if knot.Kind != impl.NFn && knot.Kind != impl.NTable {
		for _, kid := range knot.Kids {
			kids = append(kids, m.piece(kid))
		}
	}
	all := slices.Concat(kids...)
	switch knot.Kind {
	case impl.NNil:
		return one(impl.ONil, 0)
	case impl.NBool:
		return one(impl.OBool, knot.I)
	case impl.NInt:
		return one(impl.OInt, knot.I)
	case impl.NText:
		return one(impl.OText, slices.Index(m.texts, knot.Text))
	case impl.NFn:
		return one(impl.OFn, slices.Index(m.fns, n))
	case impl.NTable:
		return m.tablePiece(knot.Kids)
	case impl.NIndex:
		return append(all, one(impl.OIndex, 0)...)
	case impl.NOp:
		return append(all, one(impl.OOp, knot.I)...)
	case impl.NTurn:
		return append(all, one(impl.OTurn, knot.I)...)
	case impl.NAnd:
		return slices.Concat(kids[0], one(impl.OAnd, 1+len(kids[1])), kids[1])
	case impl.NOr:
		return slices.Concat(kids[0], one(impl.OOr, 1+len(kids[1])), kids[1])
	case impl.NCall:
		return slices.Concat(one(impl.OMark, 0), all, one(impl.OCall, len(kids)-1))
	case impl.NPut:
		return append(all, one(impl.OPut, 0)...)
	case impl.NReturn:
		return append(all, one(impl.OReturn, 0)...)
	case impl.NDo:
		return append(all, one(impl.OPop, 0)...)
	case impl.NBlock:
		return all
	case impl.NIf, impl.NWhile:
		return askedPiece(knot.Kind, kids)
	}
	return append(all, m.namePiece(n)...)
}

func (m *codeModel) tablePiece(fields []int) []impl.Ins {
	out := one(impl.OTab, 0)
	items := 0
	for _, field := range fields {
		out = append(out, impl.Ins{Op: impl.ODup})
		kids := m.Nodes[field].Kids
		if len(kids) == 1 {
			items++
			out = append(out, impl.Ins{Op: impl.OInt, A: items})
		}
		for _, kid := range kids {
			out = append(out, m.piece(kid)...)
		}
		out = append(out, impl.Ins{Op: impl.OPut})
	}
	return out
}

func askedPiece(kind int, kids [][]impl.Ins) []impl.Ins {
	asked, block := kids[0], kids[1]
	if kind == impl.NWhile {
		back := len(asked) + 1 + len(block)
		return slices.Concat(asked, one(impl.OJumpNot, len(block)+2), block, one(impl.OJump, -back))
	}
	if len(kids) == 2 {
		return slices.Concat(asked, one(impl.OJumpNot, len(block)+1), block)
	}
	return slices.Concat(asked, one(impl.OJumpNot, len(block)+2), block, one(impl.OJump, len(kids[2])+1), kids[2])
}

func (m *codeModel) namePiece(n int) []impl.Ins {
	knot := m.Nodes[n]
	local, known := m.named[n]
	switch {
	case knot.Kind == impl.NLocal:
		return slices.Concat(one(impl.OSet, m.slot(n)), m.boxes(n))
	case knot.Kind == impl.NSet && known:
		return []impl.Ins{m.use(n, local, impl.OSet, impl.OSetBox, impl.OSetUp)}
	case knot.Kind == impl.NName && known:
		return []impl.Ins{m.use(n, local, impl.OLocal, impl.OBoxed, impl.OUp)}
	}
	return one(impl.OLib, 1+slices.Index(libraryNames(), knot.Text))
}

func (m *codeModel) proto(f int) impl.Proto {
	knot := m.Nodes[f]
	p := impl.Proto{Slots: len(m.locals[f])}
	if f != m.Top {
		p.Params = len(knot.Kids) - 1
		p.Code = m.boxes(knot.Kids[:p.Params]...)
		knot = m.Nodes[knot.Kids[p.Params]]
	}
	for _, kid := range knot.Kids {
		p.Code = append(p.Code, m.piece(kid)...)
	}
	p.Code = append(p.Code, impl.Ins{Op: impl.ONil}, impl.Ins{Op: impl.OReturn})
	for at, ins := range p.Code {
		if slices.Contains([]int{impl.OJump, impl.OJumpNot, impl.OAnd, impl.OOr}, ins.Op) {
			p.Code[at].A += at
		}
	}
	for _, local := range m.ups[f] {
		around := m.function(f)
		up := impl.Up{Local: true, Index: m.slot(local)}
		if m.function(local) != around {
			up = impl.Up{Index: slices.Index(m.ups[around], local)}
		}
		p.Ups = append(p.Ups, up)
	}
	return p
}

// refusal is the code with which a node is refused where all of it is made; 0 for none.
func (m *codeModel) refusal(n int) int {
	knot := m.Nodes[n]
	_, known := m.named[n]
	switch knot.Kind {
	case impl.NName:
		if !known && !slices.Contains(libraryNames(), knot.Text) {
			return impl.CodName
		}
	case impl.NSet:
		if !known {
			return impl.CodName
		}
	case impl.NLocal, impl.NParam:
		if m.slot(n) >= 20 {
			return impl.CodMany
		}
	case impl.NCall:
		if len(knot.Kids) > 41 {
			return impl.CodMany
		}
	case impl.NText:
		if slices.Index(m.texts, knot.Text) >= 255 {
			return impl.CodMany
		}
	case impl.NFn, impl.NBlock:
		if slices.Contains(m.fns, n) && (len(m.ups[n]) > 12 || len(m.proto(n).Code) > 4000) {
			return impl.CodMany
		}
	}
	return 0
}

// first is the first node of all that stand in one.
func (m *codeModel) first(n int) int {
	for len(m.Nodes[n].Kids) > 0 {
		n = m.Nodes[n].Kids[0]
	}
	return n
}

// flaw is the first refusal: by the numbers, but an NFn that is one Proto too many ahead of all that stand in it, the outermost
// one first.
func (m *codeModel) flaw() (int, int) {
	for n := range m.Nodes {
		for i := len(m.fns) - 1; i >= 100; i-- {
			if m.first(m.fns[i]) == n {
				return impl.CodMany, m.fns[i]
			}
		}
		if code := m.refusal(n); code != 0 {
			return code, n
		}
	}
	return impl.CodDone, -1
}

func modelCompile(tree impl.Tree) (impl.Module, int, int) {
	if !modelTreeOk(tree) {
		return impl.Module{}, impl.CodBad, -1
	}
	m := newCodeModel(tree)
	if code, node := m.flaw(); code != impl.CodDone {
		return impl.Module{}, code, node
	}
	out := impl.Module{Texts: m.texts}
	for _, f := range m.fns {
		out.Protos = append(out.Protos, m.proto(f))
	}
	return out, impl.CodDone, -1
}

// checkCompile holds Compile against the model, and tells the code.
func checkCompile(t *testing.T, tree impl.Tree) int {
	t.Helper()
	want, code, node := modelCompile(tree)
	if code != impl.CodDone {
		checkFlaw(t, tree, code, node)
		return code
	}
	got := moduleOf(t, tree)
	if !slices.Equal(toldModule(got), toldModule(want)) {
		t.Errorf("code is\n%s\nwant\n%s\nof\n%s", strings.Join(toldModule(got), "\n"), strings.Join(toldModule(want), "\n"), treeLines(tree))
	}
	return code
}

// settler gives the names of a tree by chance others that name something, and puts functions in that name what is seen.
type settler struct {
	*rand.Rand
	seen []string
	fns  int // how many of 10 plain values become functions
}

func (s *settler) fresh() string {
	return []string{"a", "b", "c", "d", "e", "f", "A", "print", "state"}[s.Intn(9)]
}

func (s *settler) known() string {
	if len(s.seen) == 0 || s.Intn(8) == 0 {
		return libraryNames()[s.Intn(11)]
	}
	return s.seen[s.Intn(len(s.seen))]
}

// small is a function that names what is seen, maybe in another one.
func (s *settler) small() twig {
	var names []string
	for range s.Intn(3) {
		names = append(names, s.fresh())
	}
	inner := tBlock(tReturn(tName("x")))
	switch s.Intn(4) {
	case 0:
		inner = tBlock(tSet("x", tName("x")))
	case 1:
		inner = tBlock(tLocal("x", tName("x")), tReturn(tNil()))
	case 2:
		inner = tBlock(tReturn(tOp(1, tName("x"), tName("x"))), tDo(tCall(tNil(), tNil())))
	}
	return s.settle(tFn(strings.Join(names, " "), inner))
}

// settle goes over a twig in the order of code.
func (s *settler) settle(w twig) twig {
	if w.kind == impl.NNil && s.Intn(10) < s.fns {
		return s.small()
	}
	open := len(s.seen)
	kids := make([]twig, len(w.kids))
	for i, kid := range w.kids {
		kids[i] = s.settle(kid)
	}
	w.kids = kids
	if w.kind == impl.NSet && len(s.seen) == 0 {
		w.kind = impl.NLocal
	}
	switch w.kind {
	case impl.NBlock, impl.NFn:
		s.seen = s.seen[:open]
	case impl.NName:
		w.text = s.known()
	case impl.NSet:
		w.text = s.seen[s.Intn(len(s.seen))]
	case impl.NLocal, impl.NParam:
		w.text = s.fresh()
		s.seen = append(s.seen, w.text)
	}
	return w
}

// someProgram is a right tree by chance, whose names all name something.
func someProgram(r *rand.Rand, nodes int, deep int) twig {
	s := &settler{Rand: r, fns: 6}
	return s.settle(someTree(r, nodes, deep))
}

func TestCodeByChance(t *testing.T) {
	r := rand.New(rand.NewSource(10))
	codes := map[int]int{}
	seen := map[string]int{}
	for range 6000 {
		tree := someProgram(r, 1+r.Intn(120), 1+r.Intn(7)).tree()
		codes[checkCompile(t, tree)]++
		m, _, _ := impl.Compile(tree)
		for _, p := range m.Protos {
			for _, i := range p.Code {
				seen[opWords[i.Op]]++
			}
			for _, up := range p.Ups {
				if !up.Local && up.Index > 0 {
					seen["far"]++
				}
			}
		}
	}
	for _, word := range append(opWords[1:], "far") {
		if seen[word] < 100 {
			t.Error(word, "stands", seen[word], "times")
		}
	}
	if codes[impl.CodDone] < 3000 {
		t.Error("codes", codes)
	}
}

// Names as they come: most trees have one that is none.
func TestCodeOfAnyNames(t *testing.T) {
	r := rand.New(rand.NewSource(11))
	codes := map[int]int{}
	for range 3000 {
		top := someProgram(r, 1+r.Intn(60), 1+r.Intn(5))
		tree := top.tree()
		for range 1 + r.Intn(3) {
			n := r.Intn(len(tree.Nodes))
			if slices.Contains([]int{impl.NName, impl.NSet, impl.NLocal, impl.NParam}, tree.Nodes[n].Kind) {
				tree.Nodes[n].Text = []string{"a", "b", "q", "print", "x"}[r.Intn(5)]
			}
		}
		codes[checkCompile(t, tree)]++
		codes[checkCompile(t, someTree(r, 1+r.Intn(20), 3).tree())]++
	}
	if codes[impl.CodDone] < 500 || codes[impl.CodName] < 500 {
		t.Error("codes", codes)
	}
}

// Trees with many nodes, in which limits are passed; those of too many nodes too.
func TestCodeOfGreatTrees(t *testing.T) {
	r := rand.New(rand.NewSource(12))
	codes := map[int]int{}
	for range 60 {
		codes[checkCompile(t, someProgram(r, 200+r.Intn(2500), 3+r.Intn(8)).tree())]++
	}
	if codes[impl.CodMany] < 10 {
		t.Error("codes", codes)
	}
}

// Trees that were changed at one place: wrong ones, and others.
func TestCodeOfChangedTrees(t *testing.T) {
	r := rand.New(rand.NewSource(13))
	codes := map[int]int{}
	for range 3000 {
		tree := someProgram(r, 1+r.Intn(30), 1+r.Intn(4)).tree()
		n := r.Intn(len(tree.Nodes))
		switch r.Intn(5) {
		case 0:
			tree.Nodes[n].Kind = r.Intn(27) - 1
		case 1:
			tree.Nodes[n].I += r.Intn(3) - 1
		case 2:
			tree.Nodes[n].Text += "a"
		case 3:
			if kids := tree.Nodes[n].Kids; len(kids) > 0 {
				kids[r.Intn(len(kids))] += r.Intn(3) - 1
			}
		case 4:
			tree.Top += r.Intn(2)
		}
		codes[checkCompile(t, tree)]++
	}
	if codes[impl.CodBad] < 500 || codes[impl.CodDone] < 500 || codes[impl.CodName] < 10 {
		t.Error("codes", codes)
	}
}
