package tests

import (
	"fmt"
	"math"
	"strings"
	"testing"

	"loop.example/g00101/impl"
)

func TestIndexes(t *testing.T) {
	index := ins(impl.OIndex, 0)
	checkDeeds(t,
		// The key is taken, then the table; its block is loaded, then the value.
		deed{i: index, stack: "self | table 1", copies: "table block ab", then: "self | *ab", lays: "table.0=*block block.3=*ab"},
		deed{i: index, stack: "self | 5 table cd", copies: "cd table block plain", then: "self | 5 *plain", lays: "table.0=*block block.5=*plain"},
		// Dead, not there, and nothing: no entry.
		deed{i: index, stack: "self | table 3", copies: "table block", then: "self | nil", lays: "table.0=*block"},
		deed{i: index, stack: "self | table 2", copies: "table block", then: "self | nil", lays: "table.0=*block"},
		deed{i: index, stack: "self | table ab", copies: "ab table block", then: "self | nil", lays: "table.0=*block"},
		deed{i: index, stack: "self | table nil", copies: "table block", then: "self | nil", lays: "table.0=*block"},
		deed{i: index, stack: "self | table box", copies: "box table block", then: "self | nil", lays: "table.0=*block"},
		deed{i: index, stack: "self | table table", copies: "table block", then: "self | nil", lays: "table.0=*block"},
		deed{i: index, stack: "self | empty 1", copies: "empty", then: "self | nil"},
		deed{i: index, stack: "self | empty box", copies: "box empty", then: "self | nil"},
	)
}

func TestPuts(t *testing.T) {
	put := ins(impl.OPut, 0)
	checkDeeds(t,
		// The value is taken, then the key, then the table; its block is loaded.
		deed{i: put, stack: "self | table 1 co", copies: "co table block", then: "self |", lays: "table.0=*block block.3=*co"},
		deed{i: put, stack: "self | table cd ab", copies: "ab cd table block", then: "self |", lays: "table.0=*block block.5=*ab"},
		deed{i: put, stack: "self | table 1 nil", copies: "table block", then: "self |", lays: "table.0=*block block.3=nil"},
		deed{i: put, stack: "self | table 3 yes", copies: "table block", then: "self |", lays: "table.0=*block block.7=yes"},
		// Nothing is done where nothing stands and nothing is to stand.
		deed{i: put, stack: "self | table 2 nil", copies: "table block", then: "self |", lays: "table.0=*block"},
		deed{i: put, stack: "self | empty 2 nil", copies: "empty", then: "self |"},
	)
}

func TestOperationsOfNumbers(t *testing.T) {
	least, most := fmt.Sprint(math.MinInt), fmt.Sprint(math.MaxInt)
	rows := []struct {
		op         int
		a, b, want string
	}{
		{impl.OpAdd, "2", "3", "5"}, {impl.OpAdd, most, "1", least}, {impl.OpAdd, least, "-1", most},
		{impl.OpSub, "2", "3", "-1"}, {impl.OpSub, least, "1", most},
		{impl.OpMul, "-4", "3", "-12"}, {impl.OpMul, most, "2", "-2"}, {impl.OpMul, least, "-1", least},
		{impl.OpDiv, "7", "2", "3"}, {impl.OpDiv, "-7", "2", "-3"}, {impl.OpDiv, "7", "-2", "-3"}, {impl.OpDiv, "-7", "-2", "3"},
		{impl.OpDiv, least, "-1", least}, {impl.OpDiv, "0", "5", "0"}, {impl.OpDiv, "1", most, "0"},
		{impl.OpMod, "7", "2", "1"}, {impl.OpMod, "-7", "2", "-1"}, {impl.OpMod, "7", "-2", "1"}, {impl.OpMod, "-7", "-2", "-1"},
		{impl.OpMod, least, "-1", "0"}, {impl.OpMod, "6", "3", "0"}, {impl.OpMod, "-1", least, "-1"},
		{impl.OpLt, "1", "2", "yes"}, {impl.OpLt, "2", "2", "no"}, {impl.OpLt, "2", "1", "no"}, {impl.OpLt, least, most, "yes"},
		{impl.OpLe, "1", "2", "yes"}, {impl.OpLe, "2", "2", "yes"}, {impl.OpLe, "3", "2", "no"}, {impl.OpLe, most, least, "no"},
		{impl.OpEq, "4", "4", "yes"}, {impl.OpEq, "4", "5", "no"}, {impl.OpNe, "4", "4", "no"}, {impl.OpNe, "4", "5", "yes"},
	}
	for _, r := range rows {
		checkDeed(t, deed{i: ins(impl.OOp, r.op), stack: "self 8 | 9 " + r.a + " " + r.b, then: "self 8 | 9 " + r.want})
	}
}

func TestOperationsOfTexts(t *testing.T) {
	rows := []struct {
		op         int
		a, b, want string
	}{
		{impl.OpLt, "ab", "cd", "yes"}, {impl.OpLt, "cd", "ab", "no"}, {impl.OpLt, "ab", "long", "yes"},
		{impl.OpLe, "ab", "cd", "yes"}, {impl.OpLe, "cd", "ab", "no"},
		{impl.OpEq, "ab", "cd", "no"}, {impl.OpNe, "ab", "cd", "yes"},
	}
	for _, r := range rows {
		checkDeed(t, deed{i: ins(impl.OOp, r.op), stack: "self | " + r.a + " " + r.b, copies: r.b + " " + r.a, then: "self | " + r.want})
	}
	for _, op := range []int{impl.OpLe, impl.OpEq} {
		checkDeed(t, deed{i: ins(impl.OOp, op), stack: "self | ab ab", copies: "ab", then: "self | yes"})
	}
	checkDeed(t, deed{i: ins(impl.OOp, impl.OpLt), stack: "self | ab ab", copies: "ab", then: "self | no"})
}

// The same: of one Tag, and texts by their bytes, others by what they lead to.
func TestWhatIsTheSame(t *testing.T) {
	all := []string{"nil", "no", "yes", "0", "1", "lib:1", "lib:2", "ab", "cd", "table", "empty", "self", "bare", "co", "run", "box", "bin"}
	for i, a := range all {
		for j, b := range all {
			copies := objectsOf(b, a) // the last one is taken first
			want := map[bool]string{true: "yes", false: "no"}
			checkDeed(t, deed{i: ins(impl.OOp, impl.OpEq), stack: "self | " + a + " " + b, copies: copies, then: "self | " + want[i == j]})
			checkDeed(t, deed{i: ins(impl.OOp, impl.OpNe), stack: "self | " + a + " " + b, copies: copies, then: "self | " + want[i != j]})
		}
	}
}

func TestTurns(t *testing.T) {
	for v, want := range map[string]string{"nil": "yes", "no": "yes", "yes": "no", "0": "no", "lib:1": "no"} {
		checkDeed(t, deed{i: ins(impl.OTurn, impl.TurnNot), stack: "self 1 | 2 " + v, then: "self 1 | 2 " + want})
	}
	for _, v := range []string{"ab", "empty", "table", "self", "co", "box"} {
		checkDeed(t, deed{i: ins(impl.OTurn, impl.TurnNot), stack: "self | " + v, copies: v, then: "self | no"})
	}
	for v, want := range map[string]string{"0": "0", "5": "-5", "-5": "5", fmt.Sprint(math.MinInt): fmt.Sprint(math.MinInt), fmt.Sprint(math.MaxInt): "-9223372036854775807"} {
		checkDeed(t, deed{i: ins(impl.OTurn, impl.TurnNeg), stack: "self | " + v, then: "self | " + want})
	}
	// A table's block is only looked at.
	for v, want := range map[string]string{"ab": "2", "long": "159", "table": "1", "empty": "0"} {
		checkDeed(t, deed{i: ins(impl.OTurn, impl.TurnLen), stack: "self | " + v, copies: v, then: "self | " + want})
	}
}

// newFrame: the base is that one, and the place 0.
func newFrame(base int) func(s *scene) {
	return func(s *scene) {
		s.Words[s.place("run")+3] = uint64(base)
		s.Words[s.place("run")+4] = 0
	}
}

// A function is called: nothing is loaded. Proto 3 has one of Params and three slots, Proto 1 as many as self, and none of Params.
func TestCallsOfFunctions(t *testing.T) {
	call := func(n int) impl.Ins { return ins(impl.OCall, n) }
	checkDeeds(t,
		deed{i: call(0), stack: "self | 0 0 plain", then: "self | 3 2 plain nil nil nil", more: newFrame(6)},
		deed{i: call(1), stack: "self | 0 0 plain ab", then: "self | 3 2 plain ab nil nil", more: newFrame(6)},
		deed{i: call(2), stack: "self | 0 0 plain ab cd", then: "self | 3 2 plain ab nil nil", more: newFrame(6)},
		deed{i: call(5), stack: "self 1 | 2 0 0 plain ab 1 2 3 4", then: "self 1 | 2 3 2 plain ab nil nil", more: newFrame(8)},
		deed{i: call(1), stack: "self 8 9 | 0 0 self ab", then: "self 8 9 | 3 2 self nil nil", more: newFrame(8)},
		// What stands in the place of the links is not looked at.
		deed{i: call(0), stack: "self | co -7 plain", then: "self | 3 2 plain nil nil nil", more: newFrame(6)},
	)
}

// answers: the call of a library function leaves one value, and nothing is loaded.
func answers(lib int, args string, want string, more func(s *scene)) deed {
	n := len(strings.Fields(args))
	return deed{i: ins(impl.OCall, n), stack: fmt.Sprint("self 1 | 2 0 0 lib:", lib, " ", args), then: "self 1 | 2 " + want, more: more}
}

func TestPrints(t *testing.T) {
	texts := map[string]string{
		"": "nil", "nil": "nil", "yes": "true", "no": "false", "0": "0", "-12": "-12", fmt.Sprint(math.MinInt): "-9223372036854775808",
		"ab": "ab", "ab cd": "ab", "long": strings.Repeat("x", 159), "table": "table:5", "empty 1 2 3": "table:6", "self": "fn:1", "odd": "fn:4",
		"co": "co:7", "run": "co:8", "lib:1": "lib:1", "lib:20": "lib:20", "box": "",
	}
	for args, text := range texts {
		checkDeed(t, answers(1, args, "nil", func(s *scene) { s.Out = append(s.Out, text) }))
	}
}

func TestFailedAndState(t *testing.T) {
	checkDeeds(t,
		answers(7, "", "no", nil),
		answers(7, "ab cd", "no", nil),
		answers(11, "co", "0", nil),
		answers(11, "run", "2", nil),
		answers(11, "co ab 1", "0", nil),
	)
	for status := range 5 {
		s := sceneOf(ins(impl.OCall, 1), "self | 0 0 lib:11 co")
		s.Words[s.place("co")+1] = uint64(status)
		for _, s := range []*scene{s, s.flipped()} {
			got, _ := impl.Step(s.Machine)
			if v, _ := impl.GetVal(got.Words, got.Roots[0].N+7+2*3); v != num(status) {
				t.Error("state", status, v)
			}
		}
	}
	s := sceneOf(ins(impl.OCall, 0), "self | 0 0 lib:7")
	s.Failed = true
	got, _ := impl.Step(s.Machine)
	if v, _ := impl.GetVal(got.Words, got.Roots[0].N+7+2*3); v != yes() || !got.Failed {
		t.Error("failed", v)
	}
}

// The table is loaded, then the key behind which one looks, then the block, the key there and its value, though nobody looks at that.
func TestNext(t *testing.T) {
	next := func(args string) deed { return answers(4, args, "", nil) }
	with := func(d deed, copies string, want string, lays string) deed {
		d.copies, d.then, d.lays = copies, "self 1 | 2 "+want, lays
		return d
	}
	checkDeeds(t,
		with(next("table"), "table block ab", "1", "table.0=*block block.3=*ab"),
		with(next("table nil"), "table block ab", "1", "table.0=*block block.3=*ab"),
		with(next("table 1"), "table block cd plain", "*cd", "table.0=*block block.4=*cd block.5=*plain"),
		with(next("table cd"), "table cd block", "nil", "table.0=*block"),
		with(next("table 3 9 9"), "table block", "nil", "table.0=*block"),
		with(next("empty"), "empty", "nil", ""),
	)
}

// The function is moved down with one argument, and only looked at.
func TestPcall(t *testing.T) {
	pcall := func(args string, then string) deed {
		return deed{i: ins(impl.OCall, len(strings.Fields(args))), stack: "self 1 | 2 0 0 lib:5 " + args, then: "self 1 | 2 " + then, more: newFrame(8)}
	}
	checkDeeds(t,
		pcall("plain ab", "3 3 plain ab nil nil"),
		pcall("plain", "3 3 plain nil nil nil"),
		pcall("plain ab cd 1 2", "3 3 plain ab nil nil"),
		pcall("self ab", "3 3 self nil"),
		pcall("self", "3 3 self nil"),
	)
}
