package tests

import (
	"fmt"
	"math"
	"slices"
	"testing"

	"loop.example/g00101/impl"
)

// checkNoTables: what is no arena is handed back by all functions of the chapter, whatever Roots they are asked for.
func checkNoTables(t *testing.T, name string, a impl.Arena) {
	t.Helper()
	in := roomy(a)
	was := allOf(in)
	check := func(call string, out impl.Arena, refused bool) {
		t.Helper()
		if !refused || !sameArena(out, a) {
			t.Errorf("%s: %s does not hand it back", name, call)
		}
		checkOwn(t, out, whole(in), was)
	}
	out, code := impl.NewTab(in, 0)
	check("NewTab", out, code == impl.Bad)
	for r := range max(1, len(a.Roots)) {
		out, ok := impl.GetKey(in, r, r, 0)
		check("GetKey", out, !ok)
		out, code := impl.SetKey(in, r, r, r)
		check("SetKey", out, code == impl.Bad)
		for _, key := range []int{r, slices.Index(a.Roots, impl.Val{})} {
			out, ok = impl.NextKey(in, r, key, 0, 1)
			check("NextKey", out, !ok)
		}
		if n := impl.Border(in, r); n != -1 {
			t.Errorf("%s: Border is %d", name, n)
		}
		if n, m := impl.Capacity(in, r); n != 0 || m != 0 {
			t.Errorf("%s: Capacity is %d, %d", name, n, m)
		}
	}
}

// One for each point of ArenaOk, each with a Root that would be a table, if its Roots are not what is wrong; checkRefused asks the same of all other wrong ones.
func TestTablesOfWrongArenas(t *testing.T) {
	for _, s := range samples() { // the same calls are taken where the arena is right
		r := slices.IndexFunc(s.Roots, func(v impl.Val) bool { return v.Tag == impl.TTab })
		if _, ok := impl.GetKey(s.Arena, r, r, 0); !ok {
			t.Error("GetKey of a right arena")
		}
		if _, ok := impl.NextKey(s.Arena, r, slices.Index(s.Roots, impl.Val{}), 0, 1); !ok {
			t.Error("NextKey of a right arena")
		}
		if _, code := impl.SetKey(s.Arena, r, r, r); code != impl.Done {
			t.Error("SetKey of a right arena", code)
		}
		if impl.Border(s.Arena, r) != 0 {
			t.Error("Border of a right arena")
		}
	}
	for _, wrong := range wrongArenas() {
		checkNoTables(t, wrong.name, wrong.Arena)
	}
}

// newTab and setKey tell whether the code is any but Bad.
func newTab(a impl.Arena, into int) (impl.Arena, bool) {
	out, code := impl.NewTab(a, into)
	return out, code != impl.Bad
}

func setKey(a impl.Arena, r int, key int, from int) (impl.Arena, bool) {
	out, code := impl.SetKey(a, r, key, from)
	return out, code != impl.Bad
}

type arenaCalls = map[string]func(in impl.Arena) (impl.Arena, bool)

func TestTableRootsThatAreNone(t *testing.T) {
	for to := range 2 {
		for _, s := range pressed(to) {
			tab, num, none := s.at["table"], s.at["number"], s.at["nil"]
			for _, w := range wrongRoots(len(s.Roots)) {
				checkBad(t, s.Arena, arenaCalls{
					"NewTab into":   func(in impl.Arena) (impl.Arena, bool) { return newTab(in, w) },
					"GetKey of":     func(in impl.Arena) (impl.Arena, bool) { return impl.GetKey(in, w, num, 0) },
					"GetKey key":    func(in impl.Arena) (impl.Arena, bool) { return impl.GetKey(in, tab, w, 0) },
					"GetKey into":   func(in impl.Arena) (impl.Arena, bool) { return impl.GetKey(in, tab, num, w) },
					"SetKey of":     func(in impl.Arena) (impl.Arena, bool) { return setKey(in, w, num, num) },
					"SetKey key":    func(in impl.Arena) (impl.Arena, bool) { return setKey(in, tab, w, num) },
					"SetKey from":   func(in impl.Arena) (impl.Arena, bool) { return setKey(in, tab, num, w) },
					"NextKey of":    func(in impl.Arena) (impl.Arena, bool) { return impl.NextKey(in, w, none, 0, 1) },
					"NextKey key":   func(in impl.Arena) (impl.Arena, bool) { return impl.NextKey(in, tab, w, 0, 1) },
					"NextKey into":  func(in impl.Arena) (impl.Arena, bool) { return impl.NextKey(in, tab, none, w, 1) },
					"NextKey value": func(in impl.Arena) (impl.Arena, bool) { return impl.NextKey(in, tab, none, 0, w) },
					"NextKey all":   func(in impl.Arena) (impl.Arena, bool) { return impl.NextKey(in, w, w, w, w) },
				})
				if n := impl.Border(s.Arena, w); n != -1 {
					t.Errorf("the Root %d has the border %d", w, n)
				}
				if n, m := impl.Capacity(s.Arena, w); n != 0 || m != 0 {
					t.Errorf("the Root %d has the capacity %d, %d", w, n, m)
				}
			}
		}
	}
}

// Of each kind that a Root may be only tables are set, got, gone through and told.
func TestRootsThatAreNoTable(t *testing.T) {
	for to := range 2 {
		for i, s := range pressed(to) {
			s.Roots[s.at["number"]] = num(s.Roots[s.at["table"]].N) // a number that is the place of the table
			calls := arenaCalls{}
			for name, r := range s.at {
				n, m := impl.Capacity(s.Arena, r)
				border := impl.Border(s.Arena, r)
				switch name {
				case "table":
					if n != 4 || m != 1 || border != 1 {
						t.Errorf("arena %d: the table has the capacity %d, %d, the border %d", i, n, m, border)
					}
					continue
				case "none":
					if n != 0 || m != 0 || border != 0 {
						t.Errorf("arena %d: a table without a block has the capacity %d, %d, the border %d", i, n, m, border)
					}
					continue
				}
				if n != 0 || m != 0 || border != -1 {
					t.Errorf("arena %d: %s has the capacity %d, %d, the border %d", i, name, n, m, border)
				}
				calls["GetKey "+name] = func(in impl.Arena) (impl.Arena, bool) { return impl.GetKey(in, r, s.at["true"], s.at["lib"]) }
				calls["SetKey "+name] = func(in impl.Arena) (impl.Arena, bool) { return setKey(in, r, s.at["true"], s.at["lib"]) }
				calls["NextKey "+name] = func(in impl.Arena) (impl.Arena, bool) {
					return impl.NextKey(in, r, s.at["nil"], s.at["lib"], s.at["true"])
				}
			}
			checkBad(t, s.Arena, calls)
		}
	}
}

// A box is no key and no value, nothing is no key that is set; from nothing on keys are told, and with nothing nothing is got.
func TestKeysAndValuesThatAreNone(t *testing.T) {
	for to := range 2 {
		for i, s := range pressed(to) {
			box, none, one, lib := s.at["box"], s.at["nil"], s.at["true"], s.at["lib"]
			for _, tab := range []int{s.at["table"], s.at["none"]} {
				checkBad(t, s.Arena, arenaCalls{
					"GetKey of a box":     func(in impl.Arena) (impl.Arena, bool) { return impl.GetKey(in, tab, box, lib) },
					"SetKey of a box":     func(in impl.Arena) (impl.Arena, bool) { return setKey(in, tab, box, one) },
					"SetKey of nothing":   func(in impl.Arena) (impl.Arena, bool) { return setKey(in, tab, none, one) },
					"SetKey, both none":   func(in impl.Arena) (impl.Arena, bool) { return setKey(in, tab, none, none) },
					"SetKey to a box":     func(in impl.Arena) (impl.Arena, bool) { return setKey(in, tab, one, box) },
					"SetKey, both boxes":  func(in impl.Arena) (impl.Arena, bool) { return setKey(in, tab, box, box) },
					"NextKey of a box":    func(in impl.Arena) (impl.Arena, bool) { return impl.NextKey(in, tab, box, lib, one) },
					"NextKey into one":    func(in impl.Arena) (impl.Arena, bool) { return impl.NextKey(in, tab, none, lib, lib) },
					"NextKey into key":    func(in impl.Arena) (impl.Arena, bool) { return impl.NextKey(in, tab, none, none, none) },
					"NextKey into itself": func(in impl.Arena) (impl.Arena, bool) { return impl.NextKey(in, tab, none, tab, tab) },
				})
				out, ok := impl.GetKey(s.Arena, tab, none, lib)
				if !ok || out.Roots[lib] != (impl.Val{}) || !impl.ArenaOk(out) {
					t.Errorf("arena %d: with nothing %v is got, %v", i, out.Roots[lib], ok)
				}
			}
		}
	}
}

// An entry without a key may have a value in an arena that is right: it does not count, nothing is got with nothing, and a new block leaves it out.
func TestValuesWithoutKeys(t *testing.T) {
	for to := range 2 {
		s := stillSample(300, to)
		s.put("block", 1+4*3+2, pairs(num(99))...) // the entries 0 to 2 have keys
		const tab, none, number, into = 5, 0, 2, 3
		if !impl.ArenaOk(s.Arena) {
			t.Fatal("not right")
		}
		out, ok := impl.GetKey(s.Arena, tab, none, into)
		if !ok || out.Roots[into] != (impl.Val{}) {
			t.Error("with nothing is got", out.Roots[into])
		}
		if n, m := impl.Capacity(s.Arena, tab); n != 4 || m != 3 {
			t.Error("the capacity is", n, m)
		}
		// NextKey asks for a value alone: behind the last key comes the value without one.
		four, _ := impl.SetRoot(s.Arena, number, num(4))
		out, ok = impl.NextKey(four, tab, number, into, 4)
		if !ok || out.Roots[into] != (impl.Val{}) || out.Roots[4] != num(99) {
			t.Error("behind the last key comes", out.Roots[into], out.Roots[4])
		}
		// A new block takes over what has a key and a value: 8 and 4, and 7 comes to them.
		out, code := impl.SetKey(s.Arena, tab, number, number)
		if n, m := impl.Capacity(out, tab); code != impl.Done || n != 4 || m != 3 {
			t.Error("the new capacity is", n, m, code)
		}
		if keys, _ := walked(t, withSpare(out), tab); !slices.Equal(keys, []string{"2:8", "2:4", "2:7"}) {
			t.Error("the new block has", keys)
		}
	}
}

// Numbers that are no key of the table, from all over: no call fails, and each is a key of its own.
func TestNumbersThatAreNoKey(t *testing.T) {
	for to := range 2 {
		for _, s := range kindsAtHand(300, to) {
			for _, n := range []int{0, -1, 2, 5, 9, math.MinInt, math.MinInt + 1, math.MaxInt, 1 << 32, 1000003, 1000004} {
				a, _ := impl.SetRoot(s.Arena, s.at["lib"], num(n))
				if out, ok := impl.NextKey(a, s.at["table"], s.at["lib"], 0, 1); ok || !sameArena(out, a) {
					t.Errorf("NextKey of %d is told", n)
				}
				out, ok := impl.GetKey(a, s.at["table"], s.at["lib"], s.at["true"])
				if !ok || out.Roots[s.at["true"]] != (impl.Val{}) {
					t.Errorf("with %d is got %v", n, out.Roots[s.at["true"]])
				}
			}
		}
	}
}

// Of a right arena without Roots nothing can be asked.
func TestTablesWithoutRoots(t *testing.T) {
	a, _ := impl.NewArena(impl.MinSemi, 0)
	checkBad(t, a, arenaCalls{
		"NewTab":  func(in impl.Arena) (impl.Arena, bool) { return newTab(in, 0) },
		"GetKey":  func(in impl.Arena) (impl.Arena, bool) { return impl.GetKey(in, 0, 0, 0) },
		"SetKey":  func(in impl.Arena) (impl.Arena, bool) { return setKey(in, 0, 0, 0) },
		"NextKey": func(in impl.Arena) (impl.Arena, bool) { return impl.NextKey(in, 0, 0, 0, 1) },
	})
	n, m := impl.Capacity(a, 0)
	if told := fmt.Sprint(n, m, impl.Border(a, 0)); told != "0 0 -1" {
		t.Error("it tells", told)
	}
}
