package tests

import (
	"fmt"
	"math/rand"
	"strings"
	"testing"

	"loop.example/g00101/impl"
)

// scribe makes programs by chance that have a meaning: most of what they say fits, some of it does not. Its locals have few names, so that they hide one another, and the library.
type scribe struct {
	*rand.Rand
	seen []spoken // the locals, the last one of a name counts
	here int      // how many locals the function has
	deep int      // how many blocks and expressions are open
	left int      // how many statements may still be made
}

// someMeaning is a program of that many statements in the Top, or a few more.
func someMeaning(r *rand.Rand, statements int) twig {
	w := &scribe{Rand: r, left: 8 * statements}
	var list []twig
	for range statements {
		list = append(list, w.statement()...)
	}
	return tBlock(list...)
}

// someMeaningTree is one that can be compiled.
func someMeaningTree(r *rand.Rand, statements int) impl.Tree {
	for {
		tree := someMeaning(r, statements).tree()
		if _, code, _ := impl.Compile(tree); code == impl.CodDone {
			return tree
		}
	}
}

func (w *scribe) oneOf(list ...twig) twig { return list[w.Intn(len(list))] }

func (w *scribe) word(list string) string {
	words := strings.Fields(list)
	return words[w.Intn(len(words))]
}

func (w *scribe) kind() string { return w.word("int int text table table fn fn bool any") }

// fresh is the name of a new local; seldom one of the library's.
func (w *scribe) fresh() string {
	if w.Intn(40) == 0 {
		return w.word("print co resume yield next pcall error type")
	}
	return w.word("a b c d e f g")
}

// known is a local of that kind that is not hidden; empty when there is none.
func (w *scribe) known(kind string) string {
	hidden := map[string]bool{}
	var fit []string
	for i := len(w.seen) - 1; i >= 0; i-- {
		v := w.seen[i]
		if !hidden[v.name] && (v.kind == kind || kind == "any" || w.Intn(120) == 0) {
			fit = append(fit, v.name)
		}
		hidden[v.name] = true
	}
	if len(fit) == 0 {
		return ""
	}
	return fit[w.Intn(len(fit))]
}

func (w *scribe) call(name string, args ...twig) twig { return tCall(tName(name), args...) }

// value is an expression of a kind, mostly.
func (w *scribe) value(kind string) twig {
	w.deep++
	defer func() { w.deep-- }()
	if w.Intn(120) == 0 {
		kind = w.kind()
	}
	if name := w.known(kind); name != "" && (w.deep > 5 || w.Intn(5) > 1) {
		return tName(name)
	}
	switch kind {
	case "int":
		return w.number()
	case "text":
		return w.text()
	case "table":
		return w.table()
	case "fn":
		return w.function()
	case "bool":
		return w.truth()
	}
	return w.oneOf(tNil(), tTrue(), tInt(3), tText("any"), tName("type"), tTable(), w.function())
}

func (w *scribe) number() twig {
	if w.deep > 5 {
		return tInt(w.Intn(6))
	}
	e := func() twig { return w.value("int") }
	switch w.Intn(13) {
	case 0, 1:
		return tOp(1+w.Intn(3), e(), e())
	case 2:
		return tOp(impl.OpDiv+w.Intn(2), e(), w.oneOf(tInt(1), tInt(2), tInt(7), tTurn(impl.TurnNeg, tInt(1)), tTurn(impl.TurnNeg, tInt(3)), tInt(0)))
	case 3:
		return tTurn(impl.TurnLen, w.value(w.word("text table")))
	case 4:
		return tTurn(impl.TurnNeg, e())
	case 5:
		return tIndex(w.value("table"), w.key())
	case 6, 7:
		return tCall(w.value("fn"), w.arguments()...)
	case 8:
		return w.call("pcall", w.value("fn"), w.value(w.kind()))
	case 9:
		return tOr(w.value("bool"), e())
	}
	return w.oneOf(tInt(0), tInt(1), tInt(2), tInt(3), tInt(41), tInt(999999999999999))
}

func (w *scribe) arguments() []twig {
	var list []twig
	for range w.Intn(4) {
		list = append(list, w.value(w.word("int int any table")))
	}
	return list
}

func (w *scribe) text() twig {
	if w.deep > 5 {
		return tText("t")
	}
	switch w.Intn(8) {
	case 0, 1:
		return tOp(impl.OpJoin, w.value("text"), w.value("text"))
	case 2:
		return w.call("tostr", w.value(w.kind()))
	case 3:
		return w.call("type", w.value(w.kind()))
	}
	return w.oneOf(tText(""), tText("a"), tText("key"), tText("more than 8 bytes"), tText(strings.Repeat("long ", 12)))
}

func (w *scribe) truth() twig {
	switch w.Intn(8) {
	case 0:
		return tOp(impl.OpLt+w.Intn(2), w.value("int"), w.value("int"))
	case 1:
		return tOp(impl.OpLt+w.Intn(2), w.value("text"), w.value("text"))
	case 2:
		kind := w.kind()
		return tOp(impl.OpEq+w.Intn(2), w.value(kind), w.value(kind))
	case 3:
		return tTurn(impl.TurnNot, w.value(w.kind()))
	case 4:
		return w.call("failed")
	case 5:
		return tAnd(w.value("bool"), w.value(w.kind()))
	case 6:
		return tOr(w.value("bool"), w.value(w.kind()))
	}
	return w.oneOf(tTrue(), tFalse(), tNil())
}

func (w *scribe) key() twig {
	return w.oneOf(tInt(1), tInt(2), tInt(3), tText("key"), tTrue(), tName("print"), w.value("int"), w.value("text"), w.value(w.kind()))
}

func (w *scribe) table() twig {
	if w.deep > 5 {
		return tTable()
	}
	var fields []twig
	for range w.Intn(5) {
		if w.Intn(2) == 0 {
			fields = append(fields, tItem(w.value(w.kind())))
		} else {
			fields = append(fields, tPair(w.key(), w.value(w.kind())))
		}
	}
	return tTable(fields...)
}

// function names what is seen around it as often as its own.
func (w *scribe) function() twig {
	if w.deep > 5 {
		return w.oneOf(fnOf("a", tReturn(tName("a"))), fnOf(""), fnOf("a b a", tReturn(tName("a"))))
	}
	open, here := len(w.seen), w.here
	var params []string
	for range w.Intn(4) {
		params = append(params, w.fresh())
		w.seen = append(w.seen, spoken{params[len(params)-1], w.word("int int table text any")})
	}
	w.here = len(params)
	body := w.block()
	body.kids = append(body.kids, tReturn(w.value("int")))
	w.seen, w.here = w.seen[:open], here
	return tFn(strings.Join(params, " "), body)
}

// block is a few statements; what they declare is not seen behind it.
func (w *scribe) block() twig {
	w.deep += 2
	open := len(w.seen)
	var list []twig
	for range w.Intn(4) {
		list = append(list, w.statement()...)
	}
	w.seen = w.seen[:open]
	w.deep -= 2
	return tBlock(list...)
}

// local declares a new one, behind its value.
func (w *scribe) local(kind string) []twig {
	if w.here > 15 {
		return w.assign(kind)
	}
	v := w.value(kind)
	w.here++
	w.seen = append(w.seen, spoken{w.fresh(), kind})
	return []twig{tLocal(w.seen[len(w.seen)-1].name, v)}
}

func (w *scribe) assign(kind string) []twig {
	v := w.value(kind)
	if name := w.known(kind); name != "" {
		return []twig{tSet(name, v)}
	}
	return w.tells(v)
}

func (w *scribe) tells(v twig) []twig { return []twig{tDo(w.call("print", v))} }

// loop goes round a few times; its counter has a name that nothing hides.
func (w *scribe) loop() []twig {
	if w.here > 15 || w.deep > 9 {
		return w.assign("int")
	}
	w.here++
	i := tName(fmt.Sprint("i", strings.Repeat("i", w.deep)))
	block := w.block()
	block.kids = append([]twig{tSet(i.text, tOp(impl.OpAdd, i, tInt(1)))}, block.kids...)
	return []twig{tLocal(i.text, tInt(0)), tWhile(tOp(impl.OpLt, i, tInt(w.Intn(5))), block)}
}

// recursion is a function that calls itself; seldom it does so for ever.
func (w *scribe) recursion() []twig {
	if w.here > 15 || w.deep > 8 {
		return w.assign("fn")
	}
	w.here++
	self, n := tName("self"), tName("n")
	w.seen = append(w.seen, spoken{"self", "fn"})
	ends := tIf(tOp(impl.OpLt, n, tInt(1)), tBlock(tReturn(w.value("int"))))
	if w.Intn(8) == 0 {
		ends = tDo(tCall(w.function(), n))
	}
	again := tOp(1+w.Intn(3), w.value("int"), tCall(self, tOp(impl.OpSub, n, tInt(1))))
	return append([]twig{tLocal("self", tNil()), tSet("self", fnOf("n", ends, tReturn(again)))}, w.tells(tCall(self, tInt(w.Intn(6))))...)
}

// keepers are functions that keep the place of one local, each of another time.
func (w *scribe) keepers() []twig {
	if w.here > 14 || w.deep > 8 {
		return w.assign("fn")
	}
	w.here += 3
	t, i, v, x := tName("kept"), tName("time"), tName(w.word("a b c")), tName("x")
	var list []twig
	list = append(list, tSet("time", tOp(impl.OpAdd, i, tInt(1))), tLocal(v.text, w.value("int")))
	list = append(list, tPut(t, i, fnOf("x", tSet(v.text, tOp(impl.OpAdd, v, x)), tReturn(v))))
	list = append(list, w.tells(v)...)
	out := []twig{tLocal("kept", tTable()), tLocal("time", tInt(0)), tWhile(tOp(impl.OpLt, i, tInt(1+w.Intn(4))), tBlock(list...))}
	for range w.Intn(5) {
		out = append(out, w.tells(tCall(tIndex(t, tInt(1+w.Intn(3))), w.value("int")))...)
	}
	return out
}

// walk goes through a table.
func (w *scribe) walk() []twig {
	if w.here > 15 || w.deep > 8 {
		return w.assign("table")
	}
	w.here += 2
	t, k := tName("walked"), tName("key")
	tell := w.tells(k)
	if w.Intn(3) == 0 {
		tell = append(tell, tPut(t, k, tNil()))
	}
	tell = append(tell, tSet("key", w.call("next", t, k)))
	return []twig{tLocal("walked", w.value("table")), tLocal("key", w.call("next", t)), tWhile(k, tBlock(tell...))}
}

func (w *scribe) statement() []twig {
	w.left--
	if w.deep > 8 || w.left < 0 {
		return w.tells(w.value("int"))
	}
	switch w.Intn(20) {
	case 0, 1, 2, 3:
		return w.local(w.kind())
	case 4, 5, 6:
		return w.assign(w.kind())
	case 7, 8:
		return []twig{tPut(w.value("table"), w.key(), w.value(w.kind()))}
	case 9:
		return []twig{tIf(w.value("bool"), w.block())}
	case 10:
		return []twig{tIf(w.value("bool"), w.block(), w.block())}
	case 11, 12:
		return w.loop()
	case 13:
		return w.walk()
	case 14, 15:
		return append(w.tells(w.call("pcall", w.value("fn"), w.value(w.kind()))), w.tells(w.call("failed"))...)
	case 16:
		switch w.Intn(6) {
		case 0:
			return []twig{tReturn(w.value(w.kind()))}
		case 1:
			return []twig{tDo(w.call("error", w.value(w.kind())))}
		case 2:
			return []twig{tDo(w.call("state", w.value(w.kind())))}
		}
	case 17:
		return w.recursion()
	case 18:
		return w.keepers()
	}
	return w.tells(w.value(w.kind()))
}

// What the scribe makes has all that a meaning may have, and most of it ends.
func TestWhatTheScribeMakes(t *testing.T) {
	r := rand.New(rand.NewSource(130))
	states, errs, kinds, words := map[int]int{}, map[impl.Val]int{}, map[int]int{}, map[string]int{}
	hidden, out := 0, 0
	for range 1500 {
		tree := someMeaningTree(r, 2+r.Intn(8))
		told, code := impl.Mean(tree, impl.MaxFuel)
		if code != impl.CodDone {
			continue
		}
		states[told.State]++
		errs[told.Error]++
		out += len(told.Out)
		names := newCodeModel(tree)
		for n, knot := range tree.Nodes {
			kinds[knot.Kind]++
			if knot.Kind == impl.NName {
				words[knot.Text]++
			}
			for _, other := range names.locals[names.function(max(n-1, 0))] {
				if knot.Kind == impl.NLocal && other < n && tree.Nodes[other].Text == knot.Text {
					hidden++
				}
			}
		}
	}
	for kind := impl.NNil; kind <= impl.NPair; kind++ {
		if kinds[kind] < 50 {
			t.Error(kindName(kind), "is made", kinds[kind], "times")
		}
	}
	for _, word := range without(libraryNames(), "co", "resume", "yield") {
		if words[word] < 20 {
			t.Error(word, "is named", words[word], "times")
		}
	}
	for _, code := range []int{impl.ErrType, impl.ErrZero, impl.ErrKey, impl.ErrCall} {
		if errs[num(code)] < 3 {
			t.Error("the error", code, "comes", errs[num(code)], "times")
		}
	}
	if states[impl.MachDone] < 300 || states[impl.MachError] < 300 || states[impl.MachFuel] < 5 || hidden < 300 || out < 3000 {
		t.Error("too little:", states, hidden, "hidden,", out, "printed")
	}
}
