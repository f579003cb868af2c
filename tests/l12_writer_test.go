package tests

import (
	"fmt"
	"math/rand"
	"strings"
	"testing"

	"loop.example/g00101/impl"
)

// writer writes programs by chance that do something: most of what they say fits, some of it does not.
type writer struct {
	*rand.Rand
	seen  []spoken // the locals that are seen
	here  int      // how many locals the function has
	names int
	deep  int // how many blocks, functions and expressions are open
	fns   int // how many functions are open
	left  int // how many statements may still be written
}

// spoken is a local, and what it most likely is.
type spoken struct {
	name string
	kind string
}

// someSource is the text of a program.
func someSource(r *rand.Rand, statements int) string {
	w := &writer{Rand: r, left: statements}
	var text strings.Builder
	for w.left > 0 {
		if w.Intn(3) > 0 {
			text.WriteString(w.statement())
			continue
		}
		// An error in it does not end the program.
		text.WriteString(fmt.Sprintf("pcall(%s, %s);\n", w.function(), w.value("int")))
	}
	return text.String()
}

// someModule is the code of such a program.
func someModule(r *rand.Rand, statements int) (impl.Module, string) {
	for {
		text := someSource(r, statements)
		tree, code, _ := impl.Parse(text)
		if code != impl.ParDone {
			continue
		}
		if module, code, _ := impl.Compile(tree); code == impl.CodDone {
			return module, text
		}
	}
}

func (w *writer) one(list ...string) string { return list[w.Intn(len(list))] }

// local declares a new one; where there are too many an old one is written over.
func (w *writer) local(kind string, value string) string {
	if w.here > 14 {
		return w.assign(kind, value)
	}
	w.here++
	w.names++
	name := "v"
	for n := w.names; n > 0; n /= 26 {
		name += string(rune('a' + n%26))
	}
	w.seen = append(w.seen, spoken{name, kind})
	return fmt.Sprintf("local %s = %s;\n", name, value)
}

// known is a local of that kind, mostly; empty when there is none.
func (w *writer) known(kind string) string {
	var fit []string
	for _, v := range w.seen {
		if v.kind == kind || w.Intn(40) == 0 {
			fit = append(fit, v.name)
		}
	}
	if len(fit) == 0 {
		return ""
	}
	return w.one(fit...)
}

func (w *writer) assign(kind string, value string) string {
	if name := w.known(kind); name != "" {
		return fmt.Sprintf("%s = %s;\n", name, value)
	}
	return fmt.Sprintf("print(%s);\n", value)
}

func (w *writer) kind() string {
	return w.one("int", "int", "text", "text", "table", "table", "fn", "co", "bool")
}

// value is an expression of a kind, mostly.
func (w *writer) value(kind string) string {
	w.deep++
	defer func() { w.deep-- }()
	if w.Intn(50) == 0 {
		kind = w.kind()
	}
	if name := w.known(kind); name != "" && (w.deep > 6 || w.Intn(3) > 0) {
		return name
	}
	switch kind {
	case "int":
		return w.number()
	case "text":
		return w.text()
	case "table":
		return w.table()
	case "fn":
		return w.function()
	case "co":
		return "co(" + w.value("fn") + ")"
	}
	return w.truth()
}

func (w *writer) number() string {
	if w.deep > 6 {
		return w.one("0", "1", "2", "3", "7")
	}
	switch w.Intn(12) {
	case 0, 1:
		return fmt.Sprintf("(%s %s %s)", w.value("int"), w.one("+", "-", "*"), w.value("int"))
	case 2:
		return fmt.Sprintf("(%s %s %s)", w.value("int"), w.one("/", "%"), w.one("1", "2", "3", "-2", "-1", "7", "41", "0"))
	case 3:
		return "#" + w.value(w.one("text", "table"))
	case 4:
		return "-" + w.value("int")
	case 5:
		return fmt.Sprintf("%s[%s]", w.value("table"), w.key())
	case 6:
		return fmt.Sprintf("%s(%s)", w.value("fn"), w.value("int"))
	case 7:
		return fmt.Sprintf("resume(%s, %s)", w.value("co"), w.value("int"))
	case 8:
		return fmt.Sprintf("state(%s)", w.value("co"))
	}
	return w.one("0", "1", "2", "3", "-1", "41", "999999999999999")
}

func (w *writer) text() string {
	if w.deep > 6 {
		return `"t"`
	}
	switch w.Intn(8) {
	case 0, 1:
		return fmt.Sprintf("(%s .. %s)", w.value("text"), w.value("text"))
	case 2:
		return fmt.Sprintf("tostr(%s)", w.value(w.kind()))
	case 3:
		return fmt.Sprintf("type(%s)", w.value(w.kind()))
	}
	return w.one(`""`, `"a"`, `"key"`, `"some text of more than 8 bytes"`, `"0123456789012345678901234567890123456789"`)
}

func (w *writer) truth() string {
	switch w.Intn(8) {
	case 0:
		return fmt.Sprintf("(%s %s %s)", w.value("int"), w.one("<", "<="), w.value("int"))
	case 1:
		return fmt.Sprintf("(%s %s %s)", w.value("text"), w.one("<", "<="), w.value("text"))
	case 2:
		kind := w.kind()
		return fmt.Sprintf("(%s %s %s)", w.value(kind), w.one("==", "~="), w.value(kind))
	case 3:
		return "not " + w.value(w.kind())
	case 4:
		return "failed()"
	case 5:
		return fmt.Sprintf("(%s %s %s)", w.value("bool"), w.one("and", "or"), w.value("bool"))
	}
	return w.one("true", "false", "nil")
}

func (w *writer) key() string {
	return w.one("1", "2", "3", `"key"`, "true", "print", w.value("int"), w.value("text"), w.value(w.kind()))
}

func (w *writer) table() string {
	if w.deep > 5 {
		return "{}"
	}
	var fields []string
	for range w.Intn(4) {
		fields = append(fields, w.one(w.value(w.kind()), w.value("int"), "x = "+w.value(w.kind()), "["+w.key()+"] = "+w.value("int")))
	}
	return "{" + strings.Join(fields, ", ") + "}"
}

// function names what is seen around it as often as its own.
func (w *writer) function() string {
	if w.deep > 5 || w.Intn(12) == 0 {
		return w.one("fn(q) { return q; }", "fn() { return 5; }", "fn(q, r) { return r; }")
	}
	open, here := len(w.seen), w.here
	w.here = 1
	w.fns++
	w.seen = append(w.seen, spoken{"p", w.one("int", "int", "table", "text")})
	body := w.block()
	end := fmt.Sprintf("return %s;", w.value("int"))
	w.seen, w.here = w.seen[:open], here
	w.fns--
	return fmt.Sprintf("fn(p) { %s %s }", body, end)
}

// block is a few statements.
func (w *writer) block() string {
	w.deep += 2
	open := len(w.seen)
	var text strings.Builder
	for range w.Intn(3) {
		text.WriteString(w.statement())
	}
	w.seen = w.seen[:open]
	w.deep -= 2
	return text.String()
}

// loop goes round a few times.
func (w *writer) loop() string {
	if w.here > 14 {
		return w.assign("int", "2")
	}
	head := w.local("counter", "0")
	i := w.seen[len(w.seen)-1].name
	return head + fmt.Sprintf("while %s < %d { %s = %s + 1; %s }\n", i, w.Intn(6), i, i, w.block())
}

// pause: in the Top nobody has resumed it.
func (w *writer) pause() string {
	if w.fns == 0 && w.Intn(20) > 0 {
		return ""
	}
	return fmt.Sprintf("print(yield(%s));\n", w.value("int"))
}

func (w *writer) statement() string {
	w.left--
	if w.deep > 8 {
		return w.one("", fmt.Sprintf("print(%s);\n", w.value("int")), w.pause())
	}
	switch w.Intn(18) {
	case 0, 1, 2:
		kind := w.kind()
		return w.local(kind, w.value(kind))
	case 3, 4, 15, 16:
		kind := w.kind()
		return w.assign(kind, w.value(kind))
	case 5:
		return fmt.Sprintf("%s[%s] = %s;\n", w.value("table"), w.key(), w.value(w.kind()))
	case 6:
		return fmt.Sprintf("if %s { %s } else { %s }\n", w.value("bool"), w.block(), w.block())
	case 7, 8:
		return w.loop()
	case 9, 10:
		return fmt.Sprintf("print(pcall(%s, %s)); print(failed());\n", w.value("fn"), w.value(w.kind()))
	case 11:
		return fmt.Sprintf("print(next(%s, %s));\n", w.value("table"), w.one("nil", "nil", w.key()))
	case 12:
		return w.pause()
	case 13:
		if w.Intn(3) == 0 {
			return fmt.Sprintf("error(%s);\n", w.value(w.kind()))
		}
		fallthrough
	case 14:
		return fmt.Sprintf("print(pcall(fn(c) { return resume(c, %s); }, %s));\n", w.value("int"), w.value("co"))
	}
	return fmt.Sprintf("print(%s);\n", w.value(w.kind()))
}

// What is written does something: all instructions, the whole library, and most errors come up.
func TestWhatIsWritten(t *testing.T) {
	r := rand.New(rand.NewSource(120))
	states, errs, ops := map[int]int{}, map[int]int{}, map[string]int{}
	prints, steps := 0, 0
	for range 400 {
		module, _ := someModule(r, 3+r.Intn(10))
		m, state := impl.RunMachine(bootOf(t, module, impl.MinSemi+r.Intn(900)), impl.MaxFuel)
		states[state]++
		errs[m.Error.N]++
		prints += len(m.Out)
		steps += m.Steps
		for _, p := range module.Protos {
			for _, i := range p.Code {
				ops[opWords[i.Op]]++
				if i.Op == impl.OLib {
					ops[libraryNames()[i.A-1]]++
				}
			}
		}
	}
	for _, word := range append(opWords[1:], libraryNames()...) {
		if ops[word] < 10 {
			t.Error(word, "is written", ops[word], "times")
		}
	}
	for _, code := range []int{impl.ErrType, impl.ErrZero, impl.ErrKey, impl.ErrMemory, impl.ErrCall, impl.ErrDead} {
		if errs[code] < 5 {
			t.Error("the error", code, "comes", errs[code], "times")
		}
	}
	if states[impl.MachDone] < 100 || states[impl.MachError] < 100 || prints < 300 || steps < 10000 {
		t.Error("too little:", states, prints, "printed,", steps, "steps")
	}
}
