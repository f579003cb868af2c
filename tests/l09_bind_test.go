package tests

import (
	"strings"
	"testing"

	"loop.example/g00101/impl"
)

// operator is one between two operands; those of a greater level bind more.
type operator struct {
	text  string
	level int
	of    func(a, b twig) twig
}

func opMaker(op int) func(a, b twig) twig {
	return func(a, b twig) twig { return tOp(op, a, b) }
}

const compareLevel = 3

func operators() []operator {
	return []operator{
		{"or", 1, tOr},
		{"and", 2, tAnd},
		{"==", compareLevel, opMaker(impl.OpEq)},
		{"~=", compareLevel, opMaker(impl.OpNe)},
		{"<", compareLevel, opMaker(impl.OpLt)},
		{"<=", compareLevel, opMaker(impl.OpLe)},
		{"..", 4, opMaker(impl.OpJoin)},
		{"+", 5, opMaker(impl.OpAdd)},
		{"-", 5, opMaker(impl.OpSub)},
		{"*", 6, opMaker(impl.OpMul)},
		{"/", 6, opMaker(impl.OpDiv)},
		{"%", 6, opMaker(impl.OpMod)},
	}
}

// turner is an operator ahead of an operand.
type turner struct {
	text string
	of   func(e twig) twig
}

func turners() []turner {
	of := func(turn int) func(e twig) twig {
		return func(e twig) twig { return tTurn(turn, e) }
	}
	return []turner{{"-", of(impl.TurnNeg)}, {"not", of(impl.TurnNot)}, {"#", of(impl.TurnLen)}}
}

// checkValue reads an expression behind 'x ='.
func checkValue(t *testing.T, text string, want twig) {
	t.Helper()
	checkTwig(t, "x = "+text+";", tSet("x", want))
}

func TestTwoOperators(t *testing.T) {
	a, b, c := tName("a"), tName("b"), tName("c")
	for _, one := range operators() {
		for _, two := range operators() {
			left := two.of(one.of(a, b), c)
			right := one.of(a, two.of(b, c))
			checkValue(t, "(a "+one.text+" b) "+two.text+" c", left)
			checkValue(t, "a "+one.text+" (b "+two.text+" c)", right)
			checkValue(t, "((a "+one.text+" b)) "+two.text+" (c)", left)
			text := "a " + one.text + " b " + two.text + " c"
			switch {
			case one.level == compareLevel && two.level == compareLevel:
				checkFault(t, "x = "+text+";", impl.ParWant, len("x = a "+one.text+" b "))
			case two.level > one.level:
				checkValue(t, text, right)
			default:
				checkValue(t, text, left)
			}
		}
	}
}

// bound is what a row of operands with operators between is: cut at the last operator of those that bind least.
func bound(operands []twig, between []operator) twig {
	if len(between) == 0 {
		return operands[0]
	}
	at := 0
	for i, o := range between {
		if o.level <= between[at].level {
			at = i
		}
	}
	return between[at].of(bound(operands[:at+1], between[:at]), bound(operands[at+1:], between[at+1:]))
}

// secondComparison is the number of the first comparison that has another one ahead, with no operator between that binds less.
func secondComparison(between []operator) int {
	open := false
	for i, o := range between {
		switch {
		case o.level == compareLevel && open:
			return i
		case o.level == compareLevel:
			open = true
		case o.level < compareLevel:
			open = false
		}
	}
	return -1
}

// checkRow reads a, b, c and so on with these operators between.
func checkRow(t *testing.T, between ...operator) {
	t.Helper()
	text := "x = a"
	operands := []twig{tName("a")}
	places := []int{}
	for i, o := range between {
		name := string(rune('b' + i))
		places = append(places, len(text)+1)
		text += " " + o.text + " " + name
		operands = append(operands, tName(name))
	}
	if at := secondComparison(between); at >= 0 {
		checkFault(t, text+";", impl.ParWant, places[at])
		return
	}
	checkTwig(t, text+";", tSet("x", bound(operands, between)))
}

func TestThreeAndFourOperators(t *testing.T) {
	for _, one := range operators() {
		for _, two := range operators() {
			for _, three := range operators() {
				checkRow(t, one, two, three)
			}
		}
	}
	// One of each level is enough for four.
	some := []operator{operators()[0], operators()[1], operators()[4], operators()[6], operators()[8], operators()[9]}
	for _, one := range some {
		for _, two := range some {
			for _, three := range some {
				for _, four := range some {
					checkRow(t, one, two, three, four)
				}
			}
		}
	}
}

func TestRowsOfOneOperator(t *testing.T) {
	for _, o := range operators() {
		for length := 1; length <= 12; length++ {
			var between []operator
			for range length {
				between = append(between, o)
			}
			checkRow(t, between...)
		}
	}
}

// At most one comparison between two operands that have none outside of parentheses.
func TestComparisons(t *testing.T) {
	a, b, c, d := tName("a"), tName("b"), tName("c"), tName("d")
	lt, eq := opMaker(impl.OpLt), opMaker(impl.OpEq)
	checkValue(t, "a < b and c < d", tAnd(lt(a, b), lt(c, d)))
	checkValue(t, "a < b or c == d", tOr(lt(a, b), eq(c, d)))
	checkValue(t, "(a < b) < c", lt(lt(a, b), c))
	checkValue(t, "a < (b < c)", lt(a, lt(b, c)))
	checkValue(t, "(a < b) == (c < d)", eq(lt(a, b), lt(c, d)))
	checkValue(t, "f(a < b) < c[a == b]", lt(tCall(tName("f"), lt(a, b)), tIndex(c, eq(a, b))))
	checkValue(t, "{a < b} == {a == b}", eq(tTable(tItem(lt(a, b))), tTable(tItem(eq(a, b)))))
	checkValue(t, "not a < b", lt(tTurn(impl.TurnNot, a), b))
	checkValue(t, "not (a < b)", tTurn(impl.TurnNot, lt(a, b)))
	checkFault(t, "x = a < b == c;", impl.ParWant, 10)
	checkFault(t, "x = a and b < c < d;", impl.ParWant, 16)
	checkFault(t, "x = a < b < c and d;", impl.ParWant, 10)
	checkFault(t, "x = a or b and c == d + 1 ~= a;", impl.ParWant, 26)
	checkFault(t, "f(a < b <= c);", impl.ParWant, 8)
	checkFault(t, "x = (a < b < c);", impl.ParWant, 11)
	checkFault(t, "x = {a == b == c};", impl.ParWant, 12)
	checkFault(t, "if a == b == c {}", impl.ParWant, 10)
}

func TestTurnsBeforeOperators(t *testing.T) {
	a, b := tName("a"), tName("b")
	for _, turn := range turners() {
		for _, o := range operators() {
			checkValue(t, turn.text+" a "+o.text+" b", o.of(turn.of(a), b))
			checkValue(t, "a "+o.text+" "+turn.text+" b", o.of(a, turn.of(b)))
			checkValue(t, turn.text+" (a "+o.text+" b)", turn.of(o.of(a, b)))
			checkValue(t, turn.text+" a "+o.text+" "+turn.text+" b", o.of(turn.of(a), turn.of(b)))
			checkValue(t, "("+turn.text+" a) "+o.text+" b", o.of(turn.of(a), b))
			checkValue(t, turn.text+" a * b "+o.text+" a", bound([]twig{turn.of(a), b, a}, []operator{operators()[9], o}))
		}
	}
}

func TestTurnsAheadOfCallsAndIndexes(t *testing.T) {
	a, one := tName("a"), tInt(1)
	tails := []struct {
		text string
		of   func(e twig) twig
	}{
		{"(1)", func(e twig) twig { return tCall(e, one) }},
		{"()", func(e twig) twig { return tCall(e) }},
		{"[1]", func(e twig) twig { return tIndex(e, one) }},
		{".k", func(e twig) twig { return tIndex(e, tText("k")) }},
	}
	for _, turn := range turners() {
		for _, tail := range tails {
			checkValue(t, turn.text+" a"+tail.text, turn.of(tail.of(a)))
			checkValue(t, "("+turn.text+" a)"+tail.text, tail.of(turn.of(a)))
			checkValue(t, turn.text+" (a)"+tail.text, turn.of(tail.of(a)))
			checkValue(t, turn.text+" (a"+tail.text+")", turn.of(tail.of(a)))
			for _, more := range tails {
				checkValue(t, turn.text+" a"+tail.text+more.text, turn.of(more.of(tail.of(a))))
			}
			for _, other := range turners() {
				checkValue(t, turn.text+" "+other.text+" a"+tail.text, turn.of(other.of(tail.of(a))))
			}
		}
	}
}

func TestTurnsOfTurns(t *testing.T) {
	for _, one := range turners() {
		for _, two := range turners() {
			for _, three := range turners() {
				text := strings.Join([]string{one.text, two.text, three.text, "a"}, " ")
				checkValue(t, text, one.of(two.of(three.of(tName("a")))))
			}
		}
	}
	// Two marks '-' without a blank begin a remark.
	checkValue(t, "- -1", tTurn(impl.TurnNeg, tTurn(impl.TurnNeg, tInt(1))))
	checkFault(t, "x = --1;", impl.ParWant, 8)
}

// A '-' behind an operand stands between two; any other one stands ahead of one.
func TestMinusOnBothSides(t *testing.T) {
	a, b := tName("a"), tName("b")
	sub := opMaker(impl.OpSub)
	neg := turners()[0].of
	checkValue(t, "a-b", sub(a, b))
	checkValue(t, "a - -b", sub(a, neg(b)))
	checkValue(t, "-a-b", sub(neg(a), b))
	checkValue(t, "a- -b-b", sub(sub(a, neg(b)), b))
	checkValue(t, "(a)-(b)", sub(a, b))
	checkValue(t, "a()-b[1]", sub(tCall(a), tIndex(b, tInt(1))))
	checkValue(t, "{-a,-b}", tTable(tItem(neg(a)), tItem(neg(b))))
	checkValue(t, "{}-b", sub(tTable(), b))
	checkValue(t, "fn(){}-b", sub(tFn("", tBlock()), b))
	checkValue(t, "a(-b)", tCall(a, neg(b)))
	checkValue(t, "a[-b]", tIndex(a, neg(b)))
}
