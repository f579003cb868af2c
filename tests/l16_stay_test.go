package tests

import (
	"math"
	"math/rand"
	"slices"
	"strings"
	"sync"
	"testing"

	"loop.example/g00101/impl"
)

// holding is a machine with nothing but a module, for what is asked of the lists of machines.
func holding(m impl.Module) impl.Machine { return impl.Machine{Module: m} }

// stayingModules are right ones, and wrong ones of each kind.
func stayingModules(t *testing.T) []impl.Module {
	t.Helper()
	r := rand.New(rand.NewSource(165))
	list := []impl.Module{{}, fullModule(), plainModule(), broadModule(t), withTexts("\n"), withTexts("a", "\xff", "b")}
	for _, m := range wrongModules() {
		list = append(list, m)
	}
	for _, m := range oneFieldOff(fullModule()) {
		list = append(list, m)
	}
	for range 200 {
		list = append(list, listedModule(r))
	}
	return list
}

// Nothing is written into what is listed or looked at, nor behind it, whether it is right or not.
func TestListedModulesStay(t *testing.T) {
	for _, one := range stayingModules(t) {
		m, all := spareModule(one)
		before := all()
		text, ok := impl.Listing(m)
		again, okAgain := impl.Listing(m)
		for _, p := range m.Protos {
			impl.Jumps(p)
			impl.Depths(p)
		}
		if all() != before {
			t.Fatalf("written into:\n%s\nwas\n%s", all(), before)
		}
		if text != again || ok != okAgain {
			t.Fatalf("listed as\n%s\nand then as\n%s", text, again)
		}
		if want, isOne := modelListing(one); text != want || ok != isOne {
			t.Fatalf("with room behind it is listed as\n%s\nwant\n%s", text, want)
		}
	}
}

// What is read shares no memory with the text, nor with what is read another time; and what is written into it is nowhere else.
func TestReadModulesAreNew(t *testing.T) {
	r := rand.New(rand.NewSource(166))
	listings := []string{fullListing, nearListing, "proto 0 0\ncode\nreturn 0\n"}
	for range 100 {
		text, _ := impl.Listing(listedModule(r))
		listings = append(listings, text)
	}
	for _, text := range listings {
		one, okOne := impl.ReadListing(text)
		two, okTwo := impl.ReadListing(text)
		if !okOne || !okTwo {
			t.Fatalf("not read: %s", text)
		}
		checkApart(t, "read twice", holding(one), holding(two))
		for i, part := range one.Texts {
			if sharesBytes(part, text) || sharesBytes(text, part) {
				t.Fatalf("the Text %d shares memory with %q", i, text)
			}
		}
		want := toldModule(two)
		wipe(holding(one))
		if !slices.Equal(toldModule(two), want) {
			t.Fatal("what was written into one is in the other one")
		}
		if three, ok := impl.ReadListing(text); !ok || !slices.Equal(toldModule(three), want) {
			t.Fatal("what was written into one is read")
		}
	}
}

// What is refused has nothing.
func TestRefusedListingsHaveNothing(t *testing.T) {
	for _, text := range []string{"", "\n", nearListing + "\n", nearListing[:len(nearListing)-1], nearListing + "nil 0\n", nearListing + "nil a\n", "text a\n", fullListing + "code\n", strings.Repeat("text \n", 10001)} {
		m, ok := impl.ReadListing(text)
		if ok || m.Protos != nil || m.Texts != nil {
			t.Errorf("%.200q: %v\n%s", text, ok, strings.Join(toldModule(m), "\n"))
		}
	}
}

// A listing shares no memory with the Texts, nor with another listing.
func TestListingsAreNew(t *testing.T) {
	full := strings.Repeat("t", 160)
	for _, m := range []impl.Module{fullModule(), withTexts(full), withTexts("", full, " ")} {
		one, _ := impl.Listing(m)
		two, _ := impl.Listing(m)
		if one != two || sharesBytes(one, two) || sharesBytes(two, one) {
			t.Error("two listings share memory")
		}
		for _, text := range m.Texts {
			if sharesBytes(text, one) || sharesBytes(one, text) {
				t.Error("a listing shares memory with a Text")
			}
		}
	}
}

// Of each answer the list is a new one, with the same in it each time.
func TestPlacesAreNew(t *testing.T) {
	for _, p := range append(fullModule().Protos, impl.Proto{}, impl.Proto{Code: codeOf("jump 0, jump 0, jump 1, and -1")}, impl.Proto{Code: codeOf("nil, pop, pop, jumpnot 9")}) {
		jumps, depths := impl.Jumps(p), impl.Depths(p)
		jumpsAgain, depthsAgain := impl.Jumps(p), impl.Depths(p)
		lists := [][]int{jumps, depths, jumpsAgain, depthsAgain}
		for i, one := range lists {
			for _, other := range lists[:i] {
				if memoryOf(one).meets(memoryOf(other)) {
					t.Fatalf("two lists share memory, of %s", toldProto(p))
				}
			}
			if memoryOf(one).meets(memoryOf(p.Code)) {
				t.Fatalf("a list lies in the code, of %s", toldProto(p))
			}
		}
		for _, one := range [][]int{jumps, depths} {
			all := one[:cap(one)]
			for i := range all {
				all[i] = 0xBAD
			}
		}
		if !slices.Equal(impl.Jumps(p), jumpsAgain) || !slices.Equal(impl.Depths(p), depthsAgain) {
			t.Fatalf("what was written into an answer is told, of %s", toldProto(p))
		}
		checkPlaces(t, "looked at often", p)
	}
}

// Many who list, read and look at one module at once are told the same.
func TestManyListAtOnce(t *testing.T) {
	m := fullModule()
	depths := impl.Depths(m.Protos[0])
	var all sync.WaitGroup
	for range 16 {
		all.Go(func() {
			for range 50 {
				text, ok := impl.Listing(m)
				back, isOne := impl.ReadListing(fullListing)
				if !ok || text != fullListing || !isOne || !impl.ModuleSame(m, back) || !slices.Equal(impl.Depths(m.Protos[0]), depths) {
					t.Error("told another one")
				}
			}
		})
	}
	all.Wait()
}

// An answer at any argument: what no module has, and no panic.
func TestListingsOfAnything(t *testing.T) {
	numbers := []int{math.MinInt, math.MinInt + 1, -1, 0, 1, 27, 28, 255, math.MaxInt - 1, math.MaxInt}
	for _, n := range numbers {
		impl.OpName(n)
		for _, k := range numbers {
			p := impl.Proto{Params: n, Slots: k, Ups: []impl.Up{{Index: n}, {Local: true, Index: k}}, Code: []impl.Ins{ins(n, k), ins(k, n), ins(impl.OCall, n), ins(impl.OCall, k), ins(impl.OAnd, n), ins(impl.OJumpNot, k)}}
			checkPlaces(t, "any numbers", p)
			checkPlaces(t, "any numbers, without the first", impl.Proto{Code: p.Code[2:]})
			for _, m := range []impl.Module{{Protos: []impl.Proto{p}}, {Protos: []impl.Proto{{Code: ended()}, p}}, {Protos: []impl.Proto{{Code: ended(p.Code...)}}}} {
				checkListed(t, "any numbers", m)
			}
		}
	}
}
