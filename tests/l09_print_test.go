package tests

import (
	"math/rand"
	"regexp"
	"strings"
	"testing"

	"loop.example/g00101/impl"
)

// The model of printing: a text for each twig, made of those of its Kids, by the rows of the document's table.

var turnWords = []string{"", "-", "not", "#"}
var opMarks = []string{"", "+", "-", "*", "/", "%", "..", "==", "~=", "<", "<="}

// rowForms have a number for each Kid, 'T' for the Text, 'I' for what the number stands for.
var rowForms = map[int]string{
	impl.NNil: "nil", impl.NBool: "I", impl.NInt: "I", impl.NText: "\"T\"", impl.NName: "T", impl.NParam: "T",
	impl.NIndex: "0 [ 1 ]",
	impl.NOp:    "( 0 I 1 )", impl.NTurn: "( I 0 )", impl.NAnd: "( 0 and 1 )", impl.NOr: "( 0 or 1 )",
	impl.NLocal: "local T = 0 ;", impl.NSet: "T = 0 ;", impl.NPut: "0 [ 1 ] = 2 ;",
	impl.NWhile: "while 0 1", impl.NReturn: "return 0 ;", impl.NDo: "0 ;",
	impl.NItem: "0", impl.NPair: "[ 0 ] = 1",
}

// joined has a mark ahead, one between each two, one behind, with blanks between all.
func joined(ahead string, list []string, between string, behind string) string {
	var out []string
	if ahead != "" {
		out = append(out, ahead)
	}
	for i, s := range list {
		if i > 0 && between != "" {
			out = append(out, between)
		}
		out = append(out, s)
	}
	if behind != "" {
		out = append(out, behind)
	}
	return strings.Join(out, " ")
}

func (w twig) printed() string {
	var kids []string
	for _, kid := range w.kids {
		kids = append(kids, kid.printed())
	}
	last := len(kids) - 1
	switch w.kind {
	case impl.NFn:
		return "( fn " + joined("(", kids[:last], ",", ")") + " " + kids[last] + " )"
	case impl.NTable:
		return "( " + joined("{", kids, ",", "}") + " )"
	case impl.NCall:
		return kids[0] + " " + joined("(", kids[1:], ",", ")")
	case impl.NBlock:
		return joined("{", kids, "", "}")
	case impl.NIf:
		return "if " + kids[0] + " " + joined("", kids[1:], "else", "")
	}
	return w.filled(kids)
}

var formPlace = regexp.MustCompile(`[TI0-9]`)

func (w twig) filled(kids []string) string {
	return formPlace.ReplaceAllStringFunc(rowForms[w.kind], func(place string) string {
		switch place {
		case "T":
			return w.text
		case "I":
			return w.number()
		}
		return kids[place[0]-'0']
	})
}

func (w twig) number() string {
	switch w.kind {
	case impl.NBool:
		return []string{"false", "true"}[w.i]
	case impl.NOp:
		return opMarks[w.i]
	case impl.NTurn:
		return turnWords[w.i]
	}
	return decimal(w.i)
}

func decimal(n int) string {
	if n < 10 {
		return allDigits[n : n+1]
	}
	return decimal(n/10) + decimal(n%10)
}

// printedTop is the text of a Top: its statements, and a byte 10.
func printedTop(top twig) string {
	var list []string
	for _, kid := range top.kids {
		list = append(list, kid.printed())
	}
	return joined("", list, "", "") + "\n"
}

// nestings: how many are open at most in the text that is printed, by the document's words.

func (w twig) wholeNest(open int) int {
	return max(open+1, w.operandNest(open+1))
}

// operandNest is that of a twig that is no whole expression, but stands in one.
func (w twig) operandNest(open int) int {
	most := open
	switch w.kind {
	case impl.NFn, impl.NTable, impl.NOp, impl.NAnd, impl.NOr, impl.NTurn:
		// The parentheses of its own have a whole expression in them.
		open++
	}
	switch w.kind {
	case impl.NTurn:
		open++
	case impl.NFn:
		return w.kids[len(w.kids)-1].blockNest(open + 1)
	}
	most = max(most, open)
	for i, kid := range w.kids {
		switch {
		case w.kind == impl.NTable:
			for _, e := range kid.kids {
				most = max(most, e.wholeNest(open))
			}
		case i > 0 && (w.kind == impl.NIndex || w.kind == impl.NCall):
			most = max(most, kid.wholeNest(open))
		default:
			most = max(most, kid.operandNest(open))
		}
	}
	return most
}

// blockNest is that of the statements of a block, with the block itself among the open ones.
func (w twig) blockNest(open int) int {
	most := open
	for _, s := range w.kids {
		for i, kid := range s.kids {
			switch {
			case kid.kind == impl.NBlock:
				most = max(most, kid.blockNest(open+1))
			case s.kind == impl.NPut && i == 0:
				most = max(most, tIndex(s.kids[0], s.kids[1]).wholeNest(open))
			case s.kind == impl.NPut && i == 1:
			default:
				most = max(most, kid.wholeNest(open))
			}
		}
	}
	return most
}

// checkPrinted: the tree is printed as the model says, and read again, if it is not too long and not too deep. It tells the code.
func checkPrinted(t *testing.T, top twig) int {
	t.Helper()
	tree := top.tree()
	text, ok := impl.Print(tree)
	if want := printedTop(top); !ok || text != want {
		t.Errorf("printed as\n%q, %v, want\n%q", text, ok, want)
		return -1
	}
	if !sameTrees(tree, top.tree()) {
		t.Errorf("%q: the tree was written into", text)
	}
	back, code, at := impl.Parse(text)
	switch {
	case len(text) > impl.MaxSource:
		checkFault(t, text, impl.ParLex, 0)
	case top.blockNest(0) > impl.MaxDepth:
		if code != impl.ParDeep || len(back.Nodes) != 0 {
			t.Errorf("%q: %d at %d, want ParDeep", text, code, at)
		}
	default:
		checkTree(t, text, tree)
		if !impl.TreeSame(back, tree) {
			t.Errorf("%q: what is read is not the same", text)
		}
	}
	return code
}

func TestPrintedByHand(t *testing.T) {
	for text, want := range map[string]string{
		"":                         "\n",
		"f();":                     "f ( ) ;\n",
		"f(1,a);g();":              "f ( 1 , a ) ; g ( ) ;\n",
		"x=nil;":                   "x = nil ;\n",
		"x=true;y=false;":          "x = true ; y = false ;\n",
		"x=999999999999999;":       "x = 999999999999999 ;\n",
		"x=0;":                     "x = 0 ;\n",
		`x="";`:                    "x = \"\" ;\n",
		`x=" a  b ";`:              "x = \" a  b \" ;\n",
		"local x=a;":               "local x = a ;\n",
		"x=(a);":                   "x = a ;\n",
		"x=((a))+1;":               "x = ( a + 1 ) ;\n",
		"x=a+b*c;":                 "x = ( a + ( b * c ) ) ;\n",
		"x=a-b-c;":                 "x = ( ( a - b ) - c ) ;\n",
		"x=a or b and c;":          "x = ( a or ( b and c ) ) ;\n",
		"x=-a;":                    "x = ( - a ) ;\n",
		"x=not#a;":                 "x = ( not ( # a ) ) ;\n",
		"x=- -1;":                  "x = ( - ( - 1 ) ) ;\n",
		"x=t.a;":                   "x = t [ \"a\" ] ;\n",
		"x=t[1].b(2);":             "x = t [ 1 ] [ \"b\" ] ( 2 ) ;\n",
		"t.a=1;":                   "t [ \"a\" ] = 1 ;\n",
		"(t[1])=2;":                "t [ 1 ] = 2 ;\n",
		"t[a+b]=-a;":               "t [ ( a + b ) ] = ( - a ) ;\n",
		"f()[1]=2;":                "f ( ) [ 1 ] = 2 ;\n",
		"x={};":                    "x = ( { } ) ;\n",
		"x={1,a=2,[b]=3};":         "x = ( { 1 , [ \"a\" ] = 2 , [ b ] = 3 } ) ;\n",
		"x={{}};":                  "x = ( { ( { } ) } ) ;\n",
		"{}();":                    "( { } ) ( ) ;\n",
		"x=fn(){};":                "x = ( fn ( ) { } ) ;\n",
		"x=fn(a,b){return a;};":    "x = ( fn ( a , b ) { return a ; } ) ;\n",
		"fn(){}();":                "( fn ( ) { } ) ( ) ;\n",
		"(f or g)(1);":             "( f or g ) ( 1 ) ;\n",
		"if a{}":                   "if a { }\n",
		"if a{f();}else{}":         "if a { f ( ) ; } else { }\n",
		"if a==b{}f();":            "if ( a == b ) { } f ( ) ;\n",
		"while a<=b{f();g();}":     "while ( a <= b ) { f ( ) ; g ( ) ; }\n",
		"return {}..a;":            "return ( ( { } ) .. a ) ;\n",
		"x=a~=b;y=a<b;z=a%b/c;":    "x = ( a ~= b ) ; y = ( a < b ) ; z = ( ( a % b ) / c ) ;\n",
		"-- a remark\nf() -- x\n;": "f ( ) ;\n",
	} {
		tree, code, at := impl.Parse(text)
		if code != impl.ParDone {
			t.Errorf("%q: refused with %d at %d", text, code, at)
			continue
		}
		if got, ok := impl.Print(tree); !ok || got != want {
			t.Errorf("%q: printed as %q, want %q", text, got, want)
		}
		checkTree(t, want, tree)
	}
}

func TestPrintedRows(t *testing.T) {
	checkPrinted(t, tBlock())
	checkPrinted(t, broad())
	for _, r := range allRows() {
		if code := checkPrinted(t, tBlock(r.want...)); code != impl.ParDone {
			t.Errorf("%q: printed, and refused with %d", r.text, code)
		}
		for _, s := range allRows() {
			checkPrinted(t, tBlock(append(append([]twig{}, r.want...), s.want...)...))
		}
	}
}

// Each kind of expression in each place where one may stand.
func TestPrintedInEachPlace(t *testing.T) {
	x := tName("x")
	for kind := impl.NNil; kind <= impl.NOr; kind++ {
		e := standIn(kind)
		for _, top := range []twig{
			tBlock(tLocal("x", e)), tBlock(tSet("x", e)), tBlock(tPut(e, x, x)), tBlock(tPut(x, e, x)), tBlock(tPut(x, x, e)), tBlock(tPut(e, e, e)),
			tBlock(tIf(e, tBlock())), tBlock(tIf(e, tBlock(), tBlock())), tBlock(tWhile(e, tBlock())), tBlock(tReturn(e)),
			tBlock(tDo(tCall(e))), tBlock(tDo(tCall(x, e))), tBlock(tDo(tCall(e, e, e))),
			tBlock(tReturn(tIndex(e, x))), tBlock(tReturn(tIndex(x, e))), tBlock(tReturn(tTable(tItem(e), tPair(e, e), tItem(e)))),
			tBlock(tReturn(tFn("x", tBlock(tReturn(e))))),
			tBlock(tReturn(tAnd(e, e))), tBlock(tReturn(tOr(e, e))),
		} {
			if code := checkPrinted(t, top); code != impl.ParDone {
				t.Errorf("%s: refused with %d", kindName(kind), code)
			}
		}
		for op := 1; op <= 10; op++ {
			checkPrinted(t, tBlock(tReturn(tOp(op, e, e))))
		}
		for turn := 1; turn <= 3; turn++ {
			checkPrinted(t, tBlock(tReturn(tTurn(turn, e))))
		}
	}
}

// Right trees by chance: read as they were, or refused as too long or too deep.
func TestPrintedByChance(t *testing.T) {
	r := rand.New(rand.NewSource(94))
	codes := map[int]int{}
	for range 4000 {
		codes[checkPrinted(t, someTree(r, 1+r.Intn(60), 1+r.Intn(9)))]++
	}
	for range 400 {
		codes[checkPrinted(t, someTree(r, 100+r.Intn(900), 5+r.Intn(20)))]++
	}
	for range 20 {
		if top := someTree(r, 2000+r.Intn(800), 30); top.size() <= impl.MaxNodes {
			codes[checkPrinted(t, top)]++
		}
	}
	if codes[impl.ParDone] < 1000 || codes[impl.ParLex] < 100 {
		t.Error("codes", codes)
	}
}

// Narrow trees as deep as a text may go, and a little deeper.
func TestPrintedAtTheDepth(t *testing.T) {
	r := rand.New(rand.NewSource(95))
	x := tName("x")
	wraps := []func(e twig) twig{
		func(e twig) twig { return tOp(1+r.Intn(10), x, e) },
		func(e twig) twig { return tOp(1+r.Intn(10), e, x) },
		func(e twig) twig { return tTurn(1+r.Intn(3), e) },
		func(e twig) twig { return tAnd(e, x) },
		func(e twig) twig { return tOr(x, e) },
		func(e twig) twig { return tIndex(e, x) },
		func(e twig) twig { return tIndex(x, e) },
		func(e twig) twig { return tCall(e, x) },
		func(e twig) twig { return tCall(x, e) },
		func(e twig) twig { return tTable(tItem(e)) },
		func(e twig) twig { return tTable(tPair(x, e)) },
		func(e twig) twig { return tTable(tPair(e, x)) },
		func(e twig) twig { return tFn("a", tBlock(tReturn(e))) },
		func(e twig) twig { return tFn("", tBlock(tIf(e, tBlock()))) },
		func(e twig) twig { return tFn("", tBlock(tPut(e, x, x))) },
		func(e twig) twig { return tFn("", tBlock(tWhile(x, tBlock(tPut(x, e, x))))) },
	}
	codes := map[int]int{}
	for range 6000 {
		e := twig(x)
		top := tBlock(tSet("x", e))
		want := impl.MaxDepth - 2 + r.Intn(5)
		for top.blockNest(0) < want {
			e = wraps[r.Intn(len(wraps))](e)
			top = tBlock(tSet("x", e))
		}
		codes[checkPrinted(t, top)]++
	}
	for n := 25; n <= 35; n++ {
		top := tBlock()
		for range n {
			top = tBlock(tIf(x, top))
		}
		codes[checkPrinted(t, top)]++
	}
	if codes[impl.ParDone] < 500 || codes[impl.ParDeep] < 500 {
		t.Error("codes", codes)
	}
}

// Trees whose text has just MaxSource bytes, and a few more or less.
func TestPrintedAtTheLength(t *testing.T) {
	for bytes := impl.MaxSource - 3; bytes <= impl.MaxSource+3; bytes++ {
		var statements []twig
		length := 1
		for bytes-length > 20 {
			statements = append(statements, tDo(tCall(tName("ab"))))
			length += len("ab ( ) ; ")
		}
		// A text takes up what is left; the last statement has no blank behind it.
		rest := bytes - length - len("x = \"\" ;")
		statements = append(statements, tSet("x", tText(strings.Repeat("y", rest))))
		top := tBlock(statements...)
		text := printedTop(top)
		if len(text) != bytes {
			t.Fatal("bytes", len(text), "not", bytes)
		}
		code := checkPrinted(t, top)
		if bytes <= impl.MaxSource && code != impl.ParDone || bytes > impl.MaxSource && code != impl.ParLex {
			t.Error("of", bytes, "bytes: code", code)
		}
	}
}

// A text that is read is printed and read again as the same tree.
func TestReadPrintedAndReadAgain(t *testing.T) {
	for _, text := range append(programs(), readingPrograms()...) {
		tree, code, at := impl.Parse(text)
		if code != impl.ParDone {
			t.Errorf("%q: refused with %d at %d", text, code, at)
			continue
		}
		printed, ok := impl.Print(tree)
		if !ok {
			t.Errorf("%q: not printed", text)
		}
		checkTree(t, printed, tree)
		checkParse(t, text)
		if again, ok := impl.Print(tree); !ok || again != printed {
			t.Errorf("%q: printed as another text", text)
		}
	}
}

// readingPrograms are ordinary ones, with each row of the table nested in others.
func readingPrograms() []string {
	return []string{
		`local count = fn (n) {
	local sum = 0;
	while not (n == 0) { sum = sum + n % 10 * 2; n = (n - n % 10) / 10; }
	return sum;
};
print(count(12345) .. "!");`,
		`local shelf = { "a", "b", size = 2, [1 + 2] = { deep = { deeper = fn (x, y) { return { x, y }; } } } };
shelf.deep = shelf[3].deep.deeper(1, -#shelf)[2] or false;
if shelf.size <= 2 and shelf[1] ~= nil { shelf[shelf.size + 1] = "c"; } else { error("full"); }`,
		`local gen = co(fn (from) {
	local i = from;
	while true { yield(i); i = i + 1; if i < 10 { i = i * 2; } else { return nil; } }
});
while state(gen) ~= "done" { print(resume(gen, 1)); }
return gen;`,
		`local compose = fn (f, g) { return fn (x) { return f(g(x)); }; };
local twice = fn (f) { return compose(f, f); };
print(twice(fn (n) { return n * n - 1; })(3));
pcall(fn () { error({ code = 7, text = "no" }); });
(fn () { print("at once"); })();`,
		`if a { if b { f(); } } else { if c { g(); } else { while d { h.i[j] = not k; } } }`,
	}
}
