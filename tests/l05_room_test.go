package tests

import (
	"fmt"
	"strings"
	"testing"

	"loop.example/g00101/impl"
)

// textWords is how many words a text of so many bytes takes, with its head.
func textWords(n int) int {
	return 2 + (n+7)/8
}

// halves are the lengths of two texts that have n bytes together.
func halves(n int) (int, int) {
	return n / 3, n - n/3
}

// ladenWith is laden with two texts behind all else, in the Roots 2 and 3; they are counted in.
func ladenWith(semi int, to int, inUse int, reach int, one string, two string) impl.Arena {
	words := textWords(len(one)) + textWords(len(two))
	a := laden(semi, to, inUse-words, reach-words)
	l := &layer{a.Words, a.Top}
	a.Roots[2] = ref(impl.TStr, l.text(one))
	a.Roots[3] = ref(impl.TStr, l.text(two))
	a.Top = l.at
	if a.Top != to*semi+1+inUse || !impl.ArenaOk(a) || impl.Reached(a) != reach {
		panic(fmt.Sprint("not laden as asked for: ", a.Top, impl.Reached(a)))
	}
	return a
}

// room is what is free ahead of a collection and behind it, and the code that is told then.
type room struct{ ahead, behind, code int }

// roomsFor are those around the room that n words need.
func roomsFor(n int) []room {
	return []room{
		{n, n, impl.Done}, {n, n + 30, impl.Done}, {n + 2, n + 2, impl.Done},
		{n - 1, n + 30, impl.Done}, {n - 2, n + 2, impl.Done}, {n - 2, n, impl.Done}, {0, n, impl.Done},
		{n - 1, n - 1, impl.NoMem}, {n - 2, n - 2, impl.NoMem}, {0, n - 1, impl.NoMem}, {0, 0, impl.NoMem},
	}
}

// checkFree: a text of n words is asked for by a call where there is that room, without a Cycle and with one that has begun.
func checkFree(t *testing.T, a impl.Arena, n int, x room, text string, call func(in impl.Arena) (impl.Arena, int)) {
	t.Helper()
	collects := x.ahead < n
	for name, in := range map[string]impl.Arena{"still": a, "begun": flippedOf(a)} {
		if name == "begun" && collects {
			in, _ = impl.CopyStep(in, 3)
		}
		out, code := call(in)
		if code != x.code || out.Cycle == collects || !impl.ArenaOk(out) {
			t.Fatalf("%s, %d asked for, %+v: %d, Cycle %v", name, n, x, code, out.Cycle)
		}
		if code == impl.NoMem {
			want, _ := impl.Collect(steppedAhead(in))
			if !sameArena(out, want) {
				t.Errorf("%s, %d asked for, %+v: it is not as it is behind the collection", name, n, x)
			}
			checkStays(t, name, out, taleOf(in))
			checkJust(t, name, out)
			continue
		}
		if got, ok := impl.TextOf(out, 5); !ok || got != text {
			t.Errorf("%s, %+v: %q is told as %q", name, x, text, got)
		}
		if collects && impl.Free(out) != x.behind-n || !collects && impl.Free(out) != x.ahead-n {
			t.Errorf("%s, %d asked for, %+v: %d are free then", name, n, x, impl.Free(out))
		}
	}
}

// Free just as great as what is asked for: no collection, the Cycle goes on; one less: a collection, which finds what is garbage, or NoMem.
func TestFreeIsMetByTexts(t *testing.T) {
	const semi = 300
	for to := range 2 {
		for _, length := range edgeLengths() {
			n := textWords(length)
			first, second := halves(length)
			one, two := motley(first, 'a'), motley(second, 0xf0)
			for _, x := range roomsFor(n) {
				if x.behind-x.ahead == 1 || x.ahead < 0 || x.behind < 0 || x.behind < x.ahead {
					continue // garbage of one word is none
				}
				a := ladenWith(semi, to, semi-1-x.ahead, semi-1-x.behind, one, two)
				checkFree(t, a, n, x, one+two, func(in impl.Arena) (impl.Arena, int) { return impl.PutText(in, one+two, 5) })
				checkFree(t, a, n, x, one+two, func(in impl.Arena) (impl.Arena, int) { return impl.JoinText(in, 2, 3, 5) })
			}
		}
	}
}

// Just half of Semi - 1 words in use: nothing is flipped; with one more it is, and two objects are gone over.
func TestTextsFlipAtTheHalf(t *testing.T) {
	for to := range 2 {
		for _, semi := range []int{impl.MinSemi, impl.MinSemi + 1, impl.MaxSemi} {
			for inUse := (semi-1)/2 - 2; inUse <= (semi-1)/2+2; inUse++ {
				a := ladenWith(semi, to, inUse, inUse, "one", "another one")
				want := a
				if 2*inUse > semi-1 {
					want = steppedAhead(a)
				}
				put, code := impl.PutText(a, "oneanother one", 5)
				if code != impl.Done || put.To != want.To || put.Top != want.Top+4 || put.Scan != want.Scan || put.Copied != want.Copied {
					t.Fatalf("Semi %d, %d in use: %d, at %v, want %v", semi, inUse, code, standOf(put), standOf(want))
				}
				joined, code := impl.JoinText(a, 2, 3, 5)
				if code != impl.Done || !sameArena(joined, put) {
					t.Fatalf("Semi %d, %d in use: joined it is another one: %d", semi, inUse, code)
				}
			}
		}
	}
}

// Room lacks just when what can be reached and what is wanted are together more than Semi - 1, for a text of each length.
func TestRoomLacksForTexts(t *testing.T) {
	const semi = impl.MinSemi
	for to := range 2 {
		a := dirty(semi, to, 13)
		for r := range 11 { // 22 words each: 13 are left
			var code int
			if a, code = impl.PutText(a, motley(impl.MaxText, byte(r)), r); code != impl.Done {
				t.Fatal("text", r, "is", code)
			}
		}
		said := taleOf(a)
		for n := range impl.MaxText + 1 {
			out, code := impl.PutText(a, motley(n, 'a'), 12)
			if lacks := n > 88; lacks != (code == impl.NoMem) || code == impl.Bad {
				t.Fatalf("%d bytes where there is room for 88: %d", n, code)
			}
			if code == impl.NoMem {
				checkStays(t, "no room", out, said)
				checkJust(t, "no room", out)
			}
			// What stands in the Root into is in use until the new one is made.
			if _, again := impl.PutText(a, motley(n, 'a'), 3); again != code {
				t.Errorf("%d bytes in the place of another text: %d, elsewhere %d", n, again, code)
			}
		}
		full, _ := impl.PutText(a, motley(88, 'a'), 11)
		k := &kept{full, map[int]string{11: motley(88, 'a')}}
		for r := range 11 {
			k.texts[r] = motley(impl.MaxText, byte(r))
		}
		for i := range 3 {
			var code int
			if k.Arena, code = impl.PutText(k.Arena, "", 12); code != impl.NoMem || impl.Reached(k.Arena) != semi-1 {
				t.Fatalf("a text more is %d, time %d", code, i)
			}
			k.check(t, "full")
			if k.Arena, code = impl.JoinText(k.Arena, 11, 11, 11); code != impl.Bad {
				t.Fatal("176 bytes are joined", code)
			}
			k.check(t, "full")
		}
		less, _ := impl.SetRoot(k.Arena, 4, impl.Val{})
		if out, code := impl.PutText(less, strings.Repeat("\xff", impl.MaxText), 12); code != impl.Done || impl.Reached(out) != semi-1 {
			t.Error("a text in the room of another one is", code)
		}
	}
}

// A step of copying that is taken ahead changes nothing of when room lacks.
func TestStepsAheadOfTexts(t *testing.T) {
	for to := range 2 {
		for reach := 240; reach <= 255; reach++ {
			if reach == 254 {
				continue // garbage of one word is none
			}
			a := ladenWith(impl.MinSemi, to, 255, reach, "a text", "another")
			for steps := range 80 {
				b, _ := impl.CopyStep(flippedOf(a), steps)
				for _, n := range []int{0, 8, 40, 41} {
					out, code := impl.PutText(b, motley(n, 'a'), 0)
					if (code == impl.NoMem) != (reach+textWords(n) > 255) || !impl.ArenaOk(out) {
						t.Fatalf("%d reached, %d steps, %d bytes: %d", reach, steps, n, code)
					}
				}
				out, code := impl.JoinText(b, 2, 3, 2) // 4 words
				if (code == impl.NoMem) != (reach+4 > 255) || !impl.ArenaOk(out) {
					t.Fatalf("%d reached, %d steps: joined %d", reach, steps, code)
				}
				want := "a textanother"
				if code == impl.NoMem {
					want = "a text"
				}
				if got, ok := impl.TextOf(out, 2); !ok || got != want {
					t.Fatalf("%d reached, %d steps: %q", reach, steps, got)
				}
			}
		}
	}
}

// Room for what is joined is found by a collection: both texts lie elsewhere then, and others where they lay.
func TestJoinedWhileTheyMove(t *testing.T) {
	for to := range 2 {
		for _, cycle := range []bool{false, true} {
			a := dirty(impl.MinSemi, to, 4)
			l := &layer{a.Words, a.Top}
			for range 5 {
				l.text("garbage of five words..!") // it keeps the texts from their next places
			}
			one, two := motley(30, 'a'), motley(9, 0xf0)
			a.Roots[1] = ref(impl.TStr, l.text(one))
			a.Roots[2] = ref(impl.TStr, l.text(two))
			last := num(0)
			for l.at+3 <= to*impl.MinSemi+impl.MinSemi {
				last = ref(impl.TCell, l.cell(last))
			}
			a.Roots[0] = last // the boxes come to lie where the texts were
			a.Top = l.at
			if cycle {
				a, _ = impl.CopyStep(flippedOf(a), 4)
			}
			out, code := impl.JoinText(a, 1, 2, 3)
			if code != impl.Done || out.Roots[1] == a.Roots[1] || out.Roots[2] == a.Roots[2] {
				t.Fatalf("half %d: %d, the Roots were %v and are %v", to, code, a.Roots, out.Roots)
			}
			k := &kept{a, map[int]string{1: one, 2: two}}
			k.note(t, "moved", out, code, 3, one+two)
			again, code := impl.JoinText(a, 2, 2, 2)
			k = &kept{a, map[int]string{1: one, 2: two}}
			k.note(t, "moved, in its own place", again, code, 2, two+two)
		}
	}
}
