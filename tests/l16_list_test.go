package tests

import (
	"math"
	"math/rand"
	"runtime"
	"slices"
	"strings"
	"testing"
	"time"

	"loop.example/g00101/impl"
)

func TestListingConstants(t *testing.T) {
	if impl.MaxListing != 60000 {
		t.Error("MaxListing", impl.MaxListing)
	}
}

func TestOpName(t *testing.T) {
	names := strings.Fields("nil bool int text local boxed up set setbox setup box fn tab index put op turn jump jumpnot and or mark call return pop dup lib")
	ops := []int{impl.ONil, impl.OBool, impl.OInt, impl.OText, impl.OLocal, impl.OBoxed, impl.OUp, impl.OSet, impl.OSetBox, impl.OSetUp, impl.OBox, impl.OFn, impl.OTab, impl.OIndex, impl.OPut, impl.OOp, impl.OTurn, impl.OJump, impl.OJumpNot, impl.OAnd, impl.OOr, impl.OMark, impl.OCall, impl.OReturn, impl.OPop, impl.ODup, impl.OLib}
	for i, op := range ops {
		if got := impl.OpName(op); got != names[i] {
			t.Errorf("%d is %q, want %q", op, got, names[i])
		}
	}
	if impl.OpName(impl.ONil) != "nil" || impl.OpName(impl.OLib) != "lib" {
		t.Error("the first one, the last one")
	}
	for _, op := range []int{-1, 0, impl.OLib + 1, 29, 99, 256 + 1, 1<<32 + 1, math.MinInt, math.MinInt + 1, math.MaxInt, -27} {
		if got := impl.OpName(op); got != "" {
			t.Errorf("%d is %q", op, got)
		}
	}
}

// fullModule has Texts, an Up that is Local and one that is not (Proto 1 is made by itself alone: the Top has no Ups to give), and each of the 27 instructions.
func fullModule() impl.Module {
	return impl.Module{
		Texts: []string{"one", "", " two  words ", "code", "proto 0 0"},
		Protos: []impl.Proto{
			{Slots: 2, Code: ended(
				ins(impl.ONil, 0), ins(impl.OBool, 1), ins(impl.OInt, math.MinInt), ins(impl.OInt, math.MaxInt), ins(impl.OText, 4),
				ins(impl.OLocal, 1), ins(impl.OBoxed, 0), ins(impl.OSet, 1), ins(impl.OSetBox, 0), ins(impl.OBox, 0), ins(impl.OFn, 2),
				ins(impl.OTab, 0), ins(impl.ODup, 0), ins(impl.OIndex, 0), ins(impl.OPut, 0), ins(impl.OOp, 10), ins(impl.OTurn, 3),
				ins(impl.OJump, 25), ins(impl.OJumpNot, 0), ins(impl.OAnd, 24), ins(impl.OOr, 1), ins(impl.OMark, 0), ins(impl.OLib, 11),
				ins(impl.OCall, 40), ins(impl.OPop, 0),
			)},
			{Params: 1, Slots: 2, Ups: []impl.Up{{Local: true, Index: 1}, {Index: 0}}, Code: ended(ins(impl.OUp, 0), ins(impl.OSetUp, 1), ins(impl.OFn, 1))},
			{Params: 20, Slots: 20, Code: ended()},
		},
	}
}

const fullListing = "text one\n" +
	"text \n" +
	"text  two  words \n" +
	"text code\n" +
	"text proto 0 0\n" +
	"proto 0 2\n" +
	"code\n" +
	"nil 0\n" +
	"bool 1\n" +
	"int -9223372036854775808\n" +
	"int 9223372036854775807\n" +
	"text 4\n" +
	"local 1\n" +
	"boxed 0\n" +
	"set 1\n" +
	"setbox 0\n" +
	"box 0\n" +
	"fn 2\n" +
	"tab 0\n" +
	"dup 0\n" +
	"index 0\n" +
	"put 0\n" +
	"op 10\n" +
	"turn 3\n" +
	"jump 25\n" +
	"jumpnot 0\n" +
	"and 24\n" +
	"or 1\n" +
	"mark 0\n" +
	"lib 11\n" +
	"call 40\n" +
	"pop 0\n" +
	"return 0\n" +
	"proto 1 2\n" +
	"local 1\n" +
	"up 0\n" +
	"code\n" +
	"up 0\n" +
	"setup 1\n" +
	"fn 1\n" +
	"return 0\n" +
	"proto 20 20\n" +
	"code\n" +
	"return 0\n"

// Byte for byte.
func TestListingByHand(t *testing.T) {
	for _, one := range []struct {
		name string
		m    impl.Module
		text string
	}{
		{"full", fullModule(), fullListing},
		{"the least", impl.Module{Protos: []impl.Proto{{Code: ended()}}}, "proto 0 0\ncode\nreturn 0\n"},
		{"a Text", impl.Module{Protos: []impl.Proto{{Code: ended()}}, Texts: []string{"~ !"}}, "text ~ !\nproto 0 0\ncode\nreturn 0\n"},
		{"slots", impl.Module{Protos: []impl.Proto{{Slots: 20, Code: ended()}}}, "proto 0 20\ncode\nreturn 0\n"},
		{"Ups", impl.Module{Protos: []impl.Proto{{Code: ended()}, {Ups: []impl.Up{{Index: -1}, {Local: true, Index: math.MinInt}, {Index: math.MaxInt}}, Code: ended()}}},
			"proto 0 0\ncode\nreturn 0\nproto 0 0\nup -1\nlocal -9223372036854775808\nup 9223372036854775807\ncode\nreturn 0\n"},
	} {
		if got := checkListed(t, one.name, one.m); got != one.text {
			t.Errorf("%s is\n%s\nwant\n%s", one.name, got, one.text)
		}
		if !checkRead(t, one.name, one.text) {
			t.Errorf("%s is not read", one.name)
		}
	}
	for _, word := range opWords[1:] {
		if !strings.Contains(fullListing, "\n"+word+" ") {
			t.Error(word, "is not listed")
		}
	}
}

// withTexts is a module with these Texts, and no more than it must have.
func withTexts(texts ...string) impl.Module {
	return impl.Module{Protos: []impl.Proto{{Code: ended()}}, Texts: texts}
}

// Each byte that a Text may have, at its beginning, between others, at its end.
func TestBytesOfListedTexts(t *testing.T) {
	for b := range 256 {
		one := string([]byte{byte(b)})
		for _, text := range []string{one, "a" + one, one + "a", "a" + one + "b", one + one} {
			m := withTexts("", text, "z")
			if got, ok := impl.Listing(m); ok != (b >= 32 && b <= 126) || ok != (got != "") {
				t.Errorf("%q: listed %v, %q", text, ok, got)
			}
			checkListed(t, "a byte", m)
			if b != 10 {
				listing := "text \ntext " + text + "\ntext z\nproto 0 0\ncode\nreturn 0\n"
				if checkRead(t, "a byte", listing) != (b >= 32 && b <= 126) {
					t.Errorf("%q is read, or is not", listing)
				}
			}
		}
	}
	for _, text := range []string{"é", "\u0080", "\uFFFD", "a\xc3", "\xf0\x9f\x98\x80", "\x1f", "\x7f", "\n", "\r", "\t"} {
		if got, ok := impl.Listing(withTexts(text)); ok || got != "" {
			t.Errorf("%q: listed %v, %q", text, ok, got)
		}
		checkNoListing(t, "other letters", "text "+text+"\nproto 0 0\ncode\nreturn 0\n")
	}
}

func TestTextsOfListings(t *testing.T) {
	full := strings.Repeat("t", 160)
	for _, texts := range [][]string{
		nil, {""}, {"", ""}, {" "}, {"   "}, {"code"}, {"proto"}, {"proto 0 0"}, {"text"}, {"text text"}, {"local 0"}, {"return 0"}, {"a", "a"}, {" code "},
		{full}, {strings.Repeat(" ", 160)}, repeated(255, ""), repeated(255, full), {"\\n", "%d", "\"", "'"},
	} {
		m := withTexts(texts...)
		if checkListed(t, "texts", m) == "" {
			t.Errorf("%.100q are not listed", texts)
		}
	}
	for _, texts := range [][]string{{full + "t"}, repeated(256, ""), {"a", full + " "}} {
		m := withTexts(texts...)
		if text, ok := impl.Listing(m); ok || text != "" {
			t.Errorf("%.100q are listed", texts)
		}
		checkNoListing(t, "too much", "text "+strings.Join(texts, "\ntext ")+"\nproto 0 0\ncode\nreturn 0\n")
	}
}

// What no machine runs is not listed.
func TestListingsOfWrongModules(t *testing.T) {
	list := wrongModules()
	for name, m := range oneFieldOff(plainModule()) {
		list[name] = m
	}
	wrong := 0
	for name, m := range list {
		if checkListed(t, name, m) == "" {
			wrong++
		}
	}
	if wrong < 30 {
		t.Error("only", wrong, "are wrong")
	}
	for name := range wrongModules() {
		if text, ok := impl.Listing(list[name]); ok || text != "" {
			t.Errorf("%s: listed as\n%s", name, text)
		}
	}
}

// Promise 16: what is listed is read as itself.
func TestWhatIsListedIsReadAsItself(t *testing.T) {
	t.Parallel()
	r := rand.New(rand.NewSource(160))
	listed := 0
	for range 3000 {
		if checkListed(t, "by chance", listedModule(r)) != "" {
			listed++
		}
	}
	if listed < 2900 {
		t.Error("of the first kind only", listed)
	}
	listed = 0
	for range 2000 {
		m, code, _ := impl.Compile(someProgram(r, 1+r.Intn(150), 1+r.Intn(7)).tree())
		if code != impl.CodDone {
			continue
		}
		listed++
		if checkListed(t, "a tree by chance", m) == "" {
			t.Fatalf("not listed:\n%.2000s", strings.Join(toldModule(m), "\n"))
		}
		for range 1 + r.Intn(3) {
			turnModule(r, &m)
			checkListed(t, "a turned one", m)
		}
	}
	if listed < 1000 {
		t.Error("of trees only", listed)
	}
	for range 500 {
		m, text := someModule(r, 1+r.Intn(12))
		if checkListed(t, text, m) == "" {
			t.Fatalf("not listed: %s", text)
		}
	}
	for _, text := range append(modulePrograms(), "", "return 1;", "local a = fn() { return a; };") {
		tree, _, _ := impl.Parse(text)
		if m, code, _ := impl.Compile(tree); code == impl.CodDone && checkListed(t, text, m) == "" {
			t.Errorf("not listed: %s", text)
		}
	}
}

// Two modules that are not the same have two listings.
func TestListingsTellApart(t *testing.T) {
	list := []impl.Module{fullModule(), plainModule(), broadModule(t)}
	for _, one := range slices.Clone(list) {
		for _, m := range oneFieldOff(one) {
			if impl.ModuleOk(m) {
				list = append(list, m)
			}
		}
	}
	if len(list) < 30 {
		t.Error("only", len(list), "modules")
	}
	for i, m := range list {
		text, _ := impl.Listing(m)
		for _, o := range list[:i] {
			other, _ := impl.Listing(o)
			if (text == other) != impl.ModuleSame(m, o) {
				t.Fatalf("two modules, and the listing\n%s", text)
			}
		}
	}
}

// Who writes the lines has ended when the call answers.
func TestListingsLeaveNobodyBehind(t *testing.T) {
	m := fullModule()
	before := runtime.NumGoroutine()
	for range 300 {
		impl.Listing(m)
		impl.ReadListing(fullListing)
		impl.ReadListing(fullListing + "nil 0\n")
		impl.Listing(withTexts("\n"))
	}
	// A goroutine that has closed the channel may be counted for a moment still.
	for range 500 {
		if runtime.NumGoroutine() <= before {
			return
		}
		time.Sleep(10 * time.Millisecond)
	}
	t.Error(runtime.NumGoroutine(), "goroutines, there were", before)
}
