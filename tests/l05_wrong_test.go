package tests

import (
	"fmt"
	"slices"
	"strings"
	"testing"

	"loop.example/g00101/impl"
)

// checkNoTexts: what is no arena is handed back by all functions of the chapter, whatever Roots they are asked for.
func checkNoTexts(t *testing.T, name string, a impl.Arena) {
	t.Helper()
	in := roomy(a)
	was := allOf(in)
	check := func(call string, out impl.Arena, code int) {
		t.Helper()
		if code != impl.Bad || !sameArena(out, a) {
			t.Errorf("%s: %s does not hand it back: %d", name, call, code)
		}
		checkOwn(t, out, whole(in), was)
	}
	for r := range max(1, len(a.Roots)) {
		if s, ok := impl.TextOf(in, r); ok || s != "" {
			t.Errorf("%s: TextOf is %q, %v", name, s, ok)
		}
		if n, ok := impl.CompareText(in, r, r); ok || n != 0 {
			t.Errorf("%s: CompareText is %d, %v", name, n, ok)
		}
		out, code := impl.JoinText(in, r, r, 0)
		check("JoinText", out, code)
	}
	for _, s := range []string{"", "a text", strings.Repeat("a", impl.MaxText+1)} {
		out, code := impl.PutText(in, s, 0)
		check("PutText", out, code)
	}
}

// One for each point of ArenaOk, each with a Root that would be a text; checkRefused asks the same of all other wrong ones.
func TestTextsOfWrongArenas(t *testing.T) {
	for _, wrong := range wrongArenas() {
		a := wrong.Arena
		isText := func(v impl.Val) bool { return v.Tag == impl.TStr }
		if a.Cycle && !slices.ContainsFunc(a.Roots, isText) {
			a.Roots[2] = ref(impl.TStr, a.To*a.Semi+1)
		}
		if impl.ArenaOk(a) {
			t.Fatal(wrong.name, "is right")
		}
		checkNoTexts(t, wrong.name, a)
	}
}

// putText and joinText tell whether the code is any but Bad.
func putText(a impl.Arena, s string, into int) (impl.Arena, bool) {
	out, code := impl.PutText(a, s, into)
	return out, code != impl.Bad
}

func joinText(a impl.Arena, r int, s int, into int) (impl.Arena, bool) {
	out, code := impl.JoinText(a, r, s, into)
	return out, code != impl.Bad
}

// pressed has each kind at hand in each stage of a cycle, and with so much in use that asking would flip, or find no room.
func pressed(to int) []sample {
	list := kindsAtHand(300, to)
	list = append(list, kindsAtHand(impl.MinSemi, to)...)
	full := kindsAtHand(300, to)[0].twin()
	l := &layer{full.Words, full.Top}
	for end := to*300 + 300; l.at+3 <= end; {
		full.Roots[full.at["box"]] = ref(impl.TCell, l.cell(full.Roots[full.at["box"]]))
	}
	full.Top = l.at
	return append(list, full)
}

func TestTextRootsThatAreNone(t *testing.T) {
	for to := range 2 {
		for _, s := range pressed(to) {
			text := s.at["text"]
			for _, w := range wrongRoots(len(s.Roots)) {
				checkBad(t, s.Arena, map[string]func(in impl.Arena) (impl.Arena, bool){
					"PutText into":    func(in impl.Arena) (impl.Arena, bool) { return putText(in, "a", w) },
					"JoinText first":  func(in impl.Arena) (impl.Arena, bool) { return joinText(in, w, text, 0) },
					"JoinText second": func(in impl.Arena) (impl.Arena, bool) { return joinText(in, text, w, 0) },
					"JoinText into":   func(in impl.Arena) (impl.Arena, bool) { return joinText(in, text, text, w) },
					"JoinText all":    func(in impl.Arena) (impl.Arena, bool) { return joinText(in, w, w, w) },
				})
				if got, ok := impl.TextOf(s.Arena, w); ok || got != "" {
					t.Errorf("the Root %d is the text %q", w, got)
				}
				for _, x := range [][2]int{{w, text}, {text, w}, {w, w}} {
					if n, ok := impl.CompareText(s.Arena, x[0], x[1]); ok || n != 0 {
						t.Errorf("the Roots %v are compared as %d", x, n)
					}
				}
			}
		}
	}
}

// Of each kind that a Root may be only the text is told, joined and compared.
func TestRootsThatAreNoText(t *testing.T) {
	for to := range 2 {
		for i, s := range pressed(to) {
			text := s.at["text"]
			s.Roots[s.at["number"]] = num(s.Roots[text].N) // a number that is the place of the text
			in := roomy(s.Arena)
			was := allOf(in)
			calls := map[string]func(in impl.Arena) (impl.Arena, bool){}
			for name, r := range s.at {
				got, ok := impl.TextOf(in, r)
				if ok != (name == "text") || ok && got != "a text" || !ok && got != "" {
					t.Errorf("arena %d: %s is told as %q, %v", i, name, got, ok)
				}
				for _, x := range [][2]int{{r, text}, {text, r}, {r, r}} {
					if n, ok := impl.CompareText(in, x[0], x[1]); ok != (name == "text") || n != 0 {
						t.Errorf("arena %d: %s is compared as %d, %v", i, name, n, ok)
					}
				}
				if name == "text" {
					continue
				}
				for _, x := range [][3]int{{r, text, r}, {text, r, text}, {r, r, text}} {
					calls[fmt.Sprint(name, x)] = func(in impl.Arena) (impl.Arena, bool) { return joinText(in, x[0], x[1], x[2]) }
				}
			}
			if !sameArena(whole(in), was) {
				t.Errorf("arena %d: the argument was written into", i)
			}
			checkBad(t, s.Arena, calls)
		}
	}
}

// Too many bytes are refused ahead of all else: nothing is flipped, and whether there is room is not asked.
func TestTextsTooLong(t *testing.T) {
	for to := range 2 {
		for _, s := range pressed(to) {
			calls := map[string]func(in impl.Arena) (impl.Arena, bool){}
			for _, n := range []int{impl.MaxText + 1, impl.MaxText + 8, 2 * impl.MaxText, 5000, 1 << 20} {
				calls[fmt.Sprint("PutText of ", n)] = func(in impl.Arena) (impl.Arena, bool) {
					return putText(in, strings.Repeat("\x00", n), 0)
				}
			}
			checkBad(t, s.Arena, calls)
		}
	}
}

// Of a right arena without Roots nothing can be asked.
func TestTextsWithoutRoots(t *testing.T) {
	a, _ := impl.NewArena(impl.MinSemi, 0)
	checkBad(t, a, map[string]func(in impl.Arena) (impl.Arena, bool){
		"PutText":  func(in impl.Arena) (impl.Arena, bool) { return putText(in, "", 0) },
		"JoinText": func(in impl.Arena) (impl.Arena, bool) { return joinText(in, 0, 0, 0) },
	})
	if s, ok := impl.TextOf(a, 0); ok || s != "" {
		t.Error("a text is told", s)
	}
	if n, ok := impl.CompareText(a, 0, 0); ok || n != 0 {
		t.Error("texts are compared", n)
	}
}
