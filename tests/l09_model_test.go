package tests

import (
	"math/rand"
	"slices"
	"strings"
	"testing"

	"loop.example/g00101/impl"
)

// The model of reading, in two halves that share nothing with a reader that goes down by calls: a judge, that goes over the
// tokens with a list of what is wanted next, and tells the fault; and a cutter, that cuts a text that is right in two, where
// the operator stands that binds least.

// judge is what is left to be found, the next one last: a mark or a word; a part in capitals; "+" and "-" for what is opened and
// closed; "=kind" for what the expression that has just ended is.
type judge struct {
	tokens []impl.Token
	end    int
	at     int
	open   int
	kind   string
	wanted []string
}

// look is the next token: a mark or a word as it is, a name, a number, a text by their kinds, "" at the end.
func (j *judge) look(ahead int) string {
	if j.at+ahead >= len(j.tokens) {
		return ""
	}
	switch token := j.tokens[j.at+ahead]; token.Kind {
	case impl.TokName:
		return "NAME"
	case impl.TokInt:
		return "INT"
	case impl.TokText:
		return "TEXT"
	default:
		return token.Text
	}
}

func (j *judge) place() int {
	if j.at == len(j.tokens) {
		return j.end
	}
	return j.tokens[j.at].At
}

// then: these are wanted now, in this order.
func (j *judge) then(wanted string) {
	list := strings.Fields(wanted)
	slices.Reverse(list)
	j.wanted = append(j.wanted, list...)
}

// parts are those of which the next token tells how they go on; "" stands for any other token.
var parts = map[string]map[string]string{
	"STATEMENTS": {"}": ".", "": "STATEMENT STATEMENTS"},
	"STATEMENT": {
		"local":  "local NAME = WHOLE ;",
		"if":     "if WHOLE BLOCK ELSE",
		"while":  "while WHOLE BLOCK",
		"return": "return WHOLE ;",
		"":       "WHOLE BEHIND",
	},
	"ELSE":     {"else": "else BLOCK", "": "."},
	"BLOCK":    {"": "+ { STATEMENTS } -"},
	"WHOLE":    {"": "+ OR -"},
	"OR":       {"": "AND ORS"},
	"ORS":      {"or": "or AND =other ORS", "": "."},
	"AND":      {"": "COMPARE ANDS"},
	"ANDS":     {"and": "and COMPARE =other ANDS", "": "."},
	"COMPARE":  {"": "JOIN COMPARES"},
	"COMPARES": {"==": "== JOIN =other", "~=": "~= JOIN =other", "<": "< JOIN =other", "<=": "<= JOIN =other", "": "."},
	"JOIN":     {"": "SUM JOINS"},
	"JOINS":    {"..": ".. SUM =other JOINS", "": "."},
	"SUM":      {"": "PRODUCT SUMS"},
	"SUMS":     {"+": "+! PRODUCT =other SUMS", "-": "-! PRODUCT =other SUMS", "": "."},
	"PRODUCT":  {"": "TURN PRODUCTS"},
	"PRODUCTS": {"*": "* TURN =other PRODUCTS", "/": "/ TURN =other PRODUCTS", "%": "% TURN =other PRODUCTS", "": "."},
	"TURN":     {"-": "+ -! TURN =other -", "not": "+ not TURN =other -", "#": "+ # TURN =other -", "": "OPERAND TAILS"},
	"OPERAND": {
		"nil": "nil =other", "true": "true =other", "false": "false =other",
		"INT": "INT =other", "TEXT": "TEXT =other", "NAME": "NAME =name",
		"fn": "fn ( PARAMS BLOCK =other",
		"{":  "{ FIELDS =other",
		"(":  "( WHOLE )",
		"":   "NOTHING",
	},
	"TAILS":      {"(": "( ARGUMENTS =call TAILS", "[": "[ WHOLE ] =index TAILS", ".": ".! NAME =index TAILS", "": "."},
	"PARAMS":     {")": ")", "": "NAME MOREPARAMS"},
	"MOREPARAMS": {")": ")", "": ", NAME MOREPARAMS"},
	"ARGUMENTS":  {")": ")", "": "WHOLE MOREARGS"},
	"MOREARGS":   {")": ")", "": ", WHOLE MOREARGS"},
	"FIELDS":     {"}": "}", "": "FIELD MOREFIELDS"},
	"MOREFIELDS": {"}": "}", "": ", FIELD MOREFIELDS"},
	"FIELD":      {"[": "[ WHOLE ] = WHOLE", "": "ITEM"},
}

// statementEnds are the marks that may stand behind an expression at the beginning of a statement.
var statementEnds = map[string]string{"name =": "= WHOLE ;", "index =": "= WHOLE ;", "call ;": ";"}

// part goes on with one, and tells whether it can.
func (j *judge) part(name string) bool {
	next := j.look(0)
	switch name {
	case "BEHIND":
		rest, ok := statementEnds[j.kind+" "+next]
		j.then(rest)
		return ok
	case "ITEM":
		if next == "NAME" && j.look(1) == "=" {
			j.then("NAME = WHOLE")
		} else {
			j.then("WHOLE")
		}
		return true
	case "STATEMENTS":
		if next == "" {
			return true
		}
	}
	rule, known := parts[name]
	if !known {
		return false
	}
	rest, ok := rule[next]
	if !ok || next == "" {
		rest = rule[""]
	}
	if rest != "." {
		j.then(rest)
	}
	return true
}

// step does the next thing that is wanted, and answers a code.
func (j *judge) step() int {
	last := len(j.wanted) - 1
	want := j.wanted[last]
	j.wanted = j.wanted[:last]
	switch {
	case want == "+":
		if j.open == 30 && j.at < len(j.tokens) {
			return impl.ParDeep
		}
		j.open++
	case want == "-":
		j.open--
	case want[0] == '=' && len(want) > 2:
		j.kind = want[1:]
	case parts[want] != nil || want == "BEHIND" || want == "ITEM":
		if !j.part(want) {
			return impl.ParWant
		}
	case want == "END" && j.look(0) == "":
	case strings.TrimSuffix(want, "!") == j.look(0):
		j.at++
	default:
		return impl.ParWant
	}
	return impl.ParDone
}

func judged(tokens []impl.Token, end int) (int, int) {
	j := judge{tokens: tokens, end: end}
	j.then("STATEMENTS END")
	for len(j.wanted) > 0 {
		if code := j.step(); code != impl.ParDone {
			return code, j.place()
		}
	}
	return impl.ParDone, 0
}

// cutter has the tokens of a text that is right, and of each bracket the other one.
type cutter struct {
	tokens  []impl.Token
	partner map[int]int
}

func newCutter(tokens []impl.Token) cutter {
	c := cutter{tokens, map[int]int{}}
	var open []int
	for i := range tokens {
		if c.is(i, "( [ {") {
			open = append(open, i)
		}
		if c.is(i, ") ] }") {
			last := open[len(open)-1]
			open = open[:len(open)-1]
			c.partner[i], c.partner[last] = last, i
		}
	}
	return c
}

// is: the token is one of these words and marks.
func (c cutter) is(i int, texts string) bool {
	token := c.tokens[i]
	return (token.Kind == impl.TokMark || token.Kind == impl.TokWord) && slices.Contains(strings.Fields(texts), token.Text)
}

// endsOperand: an operand may end with that token.
func (c cutter) endsOperand(i int) bool {
	kind := c.tokens[i].Kind
	return kind == impl.TokName || kind == impl.TokInt || kind == impl.TokText || c.is(i, "nil true false ) ] }")
}

// outside are the numbers of the tokens from one to another that stand in no brackets there, but these themselves.
func (c cutter) outside(from, to int) []int {
	var list []int
	for i := from; i < to; i++ {
		list = append(list, i)
		if c.is(i, "( [ {") {
			i = c.partner[i] - 1
		}
	}
	return list
}

// first is the first token outside of brackets that is one of these.
func (c cutter) first(from, to int, texts string) int {
	for _, i := range c.outside(from, to) {
		if c.is(i, texts) {
			return i
		}
	}
	return to
}

// between are the ranges between commas.
func (c cutter) between(from, to int) [][2]int {
	var out [][2]int
	for from < to {
		comma := c.first(from, to, ",")
		out = append(out, [2]int{from, comma})
		from = comma + 1
	}
	return out
}

// blockBehind is the brace behind the expression of an 'if' or a 'while': the first one behind an operand, but a function's own.
func (c cutter) blockBehind(from int) int {
	for _, i := range c.outside(from, len(c.tokens)) {
		if i == from || !c.is(i, "{") || !c.endsOperand(i-1) {
			continue
		}
		if p, ok := c.partner[i-1]; ok && c.is(i-1, ")") && c.is(p-1, "fn") {
			continue
		}
		return i
	}
	panic("no block")
}

// cutBlock is the block whose brace stands at a place, and where it ends.
func (c cutter) cutBlock(at int) (twig, int) {
	return tBlock(c.cutStatements(at+1, c.partner[at])...), c.partner[at] + 1
}

func (c cutter) cutStatements(from, to int) []twig {
	var out []twig
	for from < to {
		var w twig
		w, from = c.cutStatement(from, to)
		out = append(out, w)
	}
	return out
}

func (c cutter) cutStatement(from, to int) (twig, int) {
	if c.is(from, "if while") {
		at := c.blockBehind(from + 1)
		e := c.cut(from+1, at)
		block, behind := c.cutBlock(at)
		if c.is(from, "while") {
			return tWhile(e, block), behind
		}
		if behind < to && c.is(behind, "else") {
			other, end := c.cutBlock(behind + 1)
			return tIf(e, block, other), end
		}
		return tIf(e, block), behind
	}
	end := c.first(from, to, ";")
	switch {
	case c.is(from, "local"):
		return tLocal(c.tokens[from+1].Text, c.cut(from+3, end)), end + 1
	case c.is(from, "return"):
		return tReturn(c.cut(from+1, end)), end + 1
	}
	equal := c.first(from, end, "=")
	if equal == end {
		return tDo(c.cut(from, end)), end + 1
	}
	left, e := c.cut(from, equal), c.cut(equal+1, end)
	if left.kind == impl.NName {
		return tSet(left.text, e), end + 1
	}
	return tPut(left.kids[0], left.kids[1], e), end + 1
}

// cut is the expression from one token to another: cut at the last operator of those that bind least.
func (c cutter) cut(from, to int) twig {
	for _, operators := range []string{"or", "and", "== ~= < <=", "..", "+ -", "* / %"} {
		list := c.outside(from, to)
		slices.Reverse(list)
		for _, i := range list {
			if i > from && c.is(i, operators) && c.endsOperand(i-1) {
				return c.operated(c.tokens[i].Text, c.cut(from, i), c.cut(i+1, to))
			}
		}
	}
	for turn, text := range []string{"-", "not", "#"} {
		if c.is(from, text) {
			return tTurn(turn+1, c.cut(from+1, to))
		}
	}
	return c.cutTail(from, to)
}

func (c cutter) operated(operator string, a, b twig) twig {
	switch operator {
	case "or":
		return tOr(a, b)
	case "and":
		return tAnd(a, b)
	}
	return tOp(1+slices.Index([]string{"+", "-", "*", "/", "%", "..", "==", "~=", "<", "<="}, operator), a, b)
}

// cutTail is an operand with all that stands behind it: the last of this is cut off.
func (c cutter) cutTail(from, to int) twig {
	last := to - 1
	begin, bracket := c.partner[last]
	switch {
	case bracket && begin == from && c.is(last, ")"):
		return c.cut(from+1, last)
	case c.is(last, ")"):
		var args []twig
		for _, arg := range c.between(begin+1, last) {
			args = append(args, c.cut(arg[0], arg[1]))
		}
		return tCall(c.cut(from, begin), args...)
	case c.is(last, "]"):
		return tIndex(c.cut(from, begin), c.cut(begin+1, last))
	case last > from && c.is(last-1, "."):
		return tIndex(c.cut(from, last-1), tText(c.tokens[last].Text))
	case bracket && begin == from:
		return c.cutTable(from, last)
	case c.is(from, "fn"):
		var names []string
		for _, param := range c.between(from+2, c.partner[from+1]) {
			names = append(names, c.tokens[param[0]].Text)
		}
		return tFn(strings.Join(names, " "), tBlock(c.cutStatements(begin+1, last)...))
	}
	return c.cutPlain(c.tokens[last])
}

func (c cutter) cutTable(from, last int) twig {
	var fields []twig
	for _, field := range c.between(from+1, last) {
		equal := c.first(field[0], field[1], "=")
		if equal == field[1] {
			fields = append(fields, tItem(c.cut(field[0], field[1])))
			continue
		}
		key := tText(c.tokens[field[0]].Text)
		if c.is(field[0], "[") {
			key = c.cut(field[0]+1, equal-1)
		}
		fields = append(fields, tPair(key, c.cut(equal+1, field[1])))
	}
	return tTable(fields...)
}

func (c cutter) cutPlain(token impl.Token) twig {
	switch token.Kind {
	case impl.TokName:
		return tName(token.Text)
	case impl.TokInt:
		return tInt(token.I)
	case impl.TokText:
		return tText(token.Text)
	}
	return map[string]twig{"nil": tNil(), "true": tTrue(), "false": tFalse()}[token.Text]
}

func modelParse(text string) (impl.Tree, int, int) {
	tokens, code, at := modelLex(text)
	if code != impl.LexDone {
		return impl.Tree{}, impl.ParLex, at
	}
	if code, at := judged(tokens, len(text)); code != impl.ParDone {
		return impl.Tree{}, code, at
	}
	return tBlock(newCutter(tokens).cutStatements(0, len(tokens))...).tree(), impl.ParDone, 0
}

// checkParse holds Parse against the model, and tells the code.
func checkParse(t *testing.T, text string) int {
	t.Helper()
	tree, code, at := modelParse(text)
	if code == impl.ParDone {
		checkTree(t, text, tree)
	} else {
		checkFault(t, text, code, at)
	}
	return code
}

// everyList calls do with each list of so many of these pieces, with blanks between.
func everyList(pieces []string, length int, do func(text string)) {
	if length == 0 {
		do("")
		return
	}
	everyList(pieces, length-1, func(text string) {
		for _, p := range pieces {
			do(text + p + " ")
		}
	})
}

func TestEveryFewTokens(t *testing.T) {
	all := append(allWords(), allMarks()...)
	all = append(all, "x", "7", `"("`)
	codes := map[int]int{}
	for length := range 4 {
		everyList(all, length, func(text string) { codes[checkParse(t, text)]++ })
	}
	if codes[impl.ParDone] < 2 || codes[impl.ParWant] < 1000 {
		t.Error("codes", codes)
	}
}

// Each list of a few pieces within a frame: statements, fields, arguments, functions, operators.
func TestEveryFewTokensInFrames(t *testing.T) {
	frames := []struct {
		ahead, behind string
		length        int
		pieces        []string
	}{
		{"", "", 6, []string{"x", "=", ";", "f()", "[", "]"}},
		{"", ";", 5, []string{"x", "=", "(", ")", ".", "1", "f", "-"}},
		{"x = ", ";", 5, []string{"x", "<", "==", "and", "-", "not", "(", ")"}},
		{"x = {", "};", 5, []string{"x", "=", "==", "[", "]", ",", "1", "}"}},
		{"f(", ");", 5, []string{"x", ",", "(", ")", "[", "]", ";", "#"}},
		{"x = fn", ";", 6, []string{"x", ",", "(", ")", "{", "}"}},
		{"if x {", "}", 5, []string{"}", "else", "{", "f();", "if x", "while x", "return 1;"}},
		{"x = a ", " b;", 4, []string{"-", "not", "#", "+", "..", "or", "a", "<=", "*"}},
	}
	for _, frame := range frames {
		codes := map[int]int{}
		for length := range frame.length + 1 {
			everyList(frame.pieces, length, func(text string) {
				codes[checkParse(t, frame.ahead+text+frame.behind)]++
			})
		}
		if codes[impl.ParDone] < 2 || codes[impl.ParWant] < 100 {
			t.Error(frame.ahead, frame.behind, codes)
		}
	}
}

// loosely is the text of a tree with as few parentheses as the writer likes: it need not be read as that tree.
func loosely(r *rand.Rand, text string) string {
	pieces := strings.Fields(text)
	var out []string
	for _, p := range pieces {
		if (p == "(" || p == ")") && r.Intn(4) == 0 {
			continue
		}
		out = append(out, p)
	}
	return strings.Join(out, " ")
}

// withoutPairs leaves parentheses away, both of a pair or none.
func withoutPairs(r *rand.Rand, text string) string {
	tokens, _, _ := modelLex(text)
	c := newCutter(tokens)
	gone := map[int]bool{}
	for i := range tokens {
		if c.is(i, "(") && r.Intn(2) == 0 && (i == 0 || !c.endsOperand(i-1) && !c.is(i-1, "fn")) {
			gone[i], gone[c.partner[i]] = true, true
		}
	}
	var out []string
	for i, token := range tokens {
		if !gone[i] {
			out = append(out, spelled(token))
		}
	}
	return strings.Join(out, " ")
}

func TestTextsByChance(t *testing.T) {
	r := rand.New(rand.NewSource(9))
	codes := map[int]int{}
	for range 6000 {
		text, ok := impl.Print(someTree(r, 1+r.Intn(40), 1+r.Intn(6)).tree())
		if !ok {
			t.Fatal("a tree that was made is not printed")
		}
		codes[checkParse(t, text)]++
		if len(text) > impl.MaxSource {
			continue
		}
		codes[checkParse(t, withoutPairs(r, text))]++
		codes[checkParse(t, loosely(r, text))]++
	}
	for _, code := range []int{impl.ParDone, impl.ParWant} {
		if codes[code] < 1000 {
			t.Error("codes", codes)
		}
	}
}

// Right texts in which one token is another one, is gone, or is there twice.
func TestTextsThatWereChanged(t *testing.T) {
	r := rand.New(rand.NewSource(99))
	for range 1500 {
		text, _ := impl.Print(someTree(r, 1+r.Intn(30), 1+r.Intn(6)).tree())
		tokens, code, _ := modelLex(withoutPairs(r, text))
		if code != impl.LexDone || len(tokens) == 0 {
			continue
		}
		for range 6 {
			list := slices.Clone(tokens)
			at := r.Intn(len(list))
			switch r.Intn(4) {
			case 0:
				list[at] = someToken(r)
			case 1:
				list = slices.Delete(list, at, at+1)
			case 2:
				list = slices.Insert(list, at, someToken(r))
			case 3:
				list[at] = list[r.Intn(len(list))]
			}
			changed, _ := written(list, func(int) string { return " " })
			checkParse(t, changed)
		}
	}
}

// Tokens by chance alone, and bytes that no token has.
func TestSoups(t *testing.T) {
	r := rand.New(rand.NewSource(999))
	codes := map[int]int{}
	for range 20000 {
		var text strings.Builder
		for range r.Intn(12) {
			text.WriteString(somePiece(r) + " ")
			if r.Intn(40) == 0 {
				text.WriteString(oddPiece(r))
			}
		}
		codes[checkParse(t, text.String())]++
	}
	if codes[impl.ParLex] < 100 || codes[impl.ParWant] < 1000 {
		t.Error("codes", codes)
	}
}
