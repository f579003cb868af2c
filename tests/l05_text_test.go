package tests

import (
	"cmp"
	"fmt"
	"math"
	"math/rand"
	"slices"
	"strings"
	"testing"

	"loop.example/g00101/impl"
)

// edgeLengths are those at which a word begins, ends or is left over, and the greatest ones.
func edgeLengths() []int {
	return []int{0, 1, 7, 8, 9, 15, 16, 17, impl.MaxText - 1, impl.MaxText}
}

// dirty is an arena whose words all were used ahead: each bit of them is set.
func dirty(semi int, to int, roots int) impl.Arena {
	a := newArena(semi, to)
	for i := range a.Words {
		a.Words[i] = math.MaxUint64
	}
	a.Roots = make([]impl.Val, roots)
	return a
}

// motley is a text of so many bytes, each another one, from the first on; those above 127 are among them.
func motley(n int, first byte) string {
	b := make([]byte, n)
	for i := range b {
		b[i] = first + byte(i)*37
	}
	return string(b)
}

// oddTexts have bytes that are no letters, or no letters' code, first, last and in between.
func oddTexts() []string {
	list := []string{"\x00", "\xff", "\x00\x00", "\xff\xff", "\x80", "\x7f", "@[`{", "é", "\xc3", "\xa9\xc3", "\xc3\x28",
		"\xe2\x82", "\xed\xa0\x80", "\xef\xbf\xbd", "\xef\xbb\xbfa", "\xf4\x90\x80\x80", "a\xffb", "a\x00b", "\n\t \""}
	for _, odd := range []string{"\x00", "\xff", "\x80", "\xc3"} {
		for _, n := range edgeLengths()[2:] {
			rest := strings.Repeat("a", n-1)
			list = append(list, odd+rest, rest+odd, rest[:n/2]+odd+rest[n/2:], strings.Repeat(odd, n))
		}
	}
	return list
}

// The words of texts, by hand; those around them are not written.
func TestWordsOfTexts(t *testing.T) {
	cases := []struct {
		text  string
		words []uint64
	}{
		{"", []uint64{0x11, 0}},
		{"a", []uint64{0x21, 1, 0x61}},
		{"abcdefg", []uint64{0x21, 7, 0x67666564636261}},
		{"abcdefgh", []uint64{0x21, 8, 0x6867666564636261}},
		{"abcdefghi", []uint64{0x31, 9, 0x6867666564636261, 0x69}},
		{"abcdefghijklmno", []uint64{0x31, 15, 0x6867666564636261, 0x6f6e6d6c6b6a69}},
		{"abcdefghijklmnop", []uint64{0x31, 16, 0x6867666564636261, 0x706f6e6d6c6b6a69}},
		{"abcdefghijklmnopq", []uint64{0x41, 17, 0x6867666564636261, 0x706f6e6d6c6b6a69, 0x71}},
		{"\x00", []uint64{0x21, 1, 0}},
		{"\x00\x00\x01", []uint64{0x21, 3, 0x10000}},
		{"\xff\x00\xff", []uint64{0x21, 3, 0xff00ff}},
		{"1234567\x80", []uint64{0x21, 8, 0x8037363534333231}},
	}
	for to := range 2 {
		for _, c := range cases {
			a := dirty(impl.MinSemi, to, 3)
			begin := a.Top
			put, code := impl.PutText(a, c.text, 1)
			if code != impl.Done || put.Roots[1] != ref(impl.TStr, begin) || put.Top != begin+len(c.words) || put.Serial != 1 {
				t.Fatalf("%q is put as %d, %v, Top %d", c.text, code, put.Roots, put.Top)
			}
			for i := range c.text { // joined of any two pieces
				joined, _ := impl.PutText(a, c.text[:i], 0)
				joined, _ = impl.PutText(joined, c.text[i:], 2)
				at := joined.Top
				joined, code = impl.JoinText(joined, 0, 2, 1)
				if code != impl.Done || !slices.Equal(joined.Words[at:joined.Top], c.words) || joined.Roots[1] != ref(impl.TStr, at) {
					t.Fatalf("%q is joined at %d to %x", c.text, i, joined.Words[at:joined.Top])
				}
			}
			for i, w := range put.Words {
				want := uint64(math.MaxUint64)
				if i >= begin && i < put.Top {
					want = c.words[i-begin]
				}
				if w != want {
					t.Errorf("half %d: %q: the word %d is %x, want %x", to, c.text, i-begin, w, want)
				}
			}
		}
	}
}

// checkPut: a text is told as it was put, whatever is done between, and what is left over of its last word is 0.
func checkPut(t *testing.T, to int, s string) {
	t.Helper()
	a := dirty(impl.MinSemi, to, 2)
	out, code := impl.PutText(a, s, 1)
	if code != impl.Done || !impl.ArenaOk(out) {
		t.Fatalf("%q is put as %d", s, code)
	}
	h, _ := impl.HeadAt(out, a.Top)
	if h != (impl.Head{Kind: impl.KStr, Size: 1 + (len(s)+7)/8}) || out.Top != a.Top+h.Size+1 {
		t.Errorf("%q is put with the head %v", s, h)
	}
	if got, ok := impl.TextOf(out, 1); !ok || got != s {
		t.Errorf("%q is told as %q, %v", s, got, ok)
	}
	for i := len(s); i < 8*(h.Size-1); i++ {
		if (model{Arena: out}).byteAt(a.Top, i) != 0 {
			t.Errorf("%q: the byte %d that is left over is not 0", s, i)
		}
	}
	for _, between := range betweens() {
		if got, ok := impl.TextOf(between.do(out), 1); !ok || got != s {
			t.Errorf("%q is told behind %s as %q, %v", s, between.name, got, ok)
		}
	}
}

func TestTextsOfEachLength(t *testing.T) {
	for to := range 2 {
		for n := range impl.MaxText + 1 {
			checkPut(t, to, motley(n, 'a'))
			checkPut(t, to, strings.Repeat("\xff", n))
		}
		for _, n := range []int{impl.MaxText + 1, impl.MaxText + 7, impl.MaxText + 9} {
			a := dirty(impl.MinSemi, to, 2)
			if out, code := impl.PutText(a, motley(n, 'a'), 1); code != impl.Bad || !sameArena(out, a) {
				t.Errorf("%d bytes are put as %d", n, code)
			}
		}
	}
}

func TestOddTexts(t *testing.T) {
	for to := range 2 {
		for _, s := range oddTexts() {
			checkPut(t, to, s)
		}
	}
}

// Each byte that there is, at each place of a word and over its end.
func TestEveryByte(t *testing.T) {
	a := dirty(impl.MinSemi, 0, 1)
	for b := range 256 {
		for i := range 17 {
			s := strings.Repeat("x", i) + string([]byte{byte(b)}) + strings.Repeat("\xff", 16-i)
			out, code := impl.PutText(a, s, 0)
			if got, ok := impl.TextOf(out, 0); code != impl.Done || !ok || got != s {
				t.Fatalf("%q is told as %q", s, got)
			}
		}
	}
}

// Texts come and go, long ones of set bits among them, so that words are used again and again, with no collection asked for by hand.
func TestWordsThatWereUsed(t *testing.T) {
	for to := range 2 {
		a := dirty(impl.MinSemi, to, 4)
		flips, was := 0, a.To
		for i := range 600 {
			s := strings.Repeat("\xff", i%18)
			if i%3 == 0 {
				s = strings.Repeat("\xff", impl.MaxText)
			}
			var code int
			a, code = impl.PutText(a, s, i%4)
			at := a.Roots[i%4].N
			want := make([]uint64, 30)
			l := &layer{words: want}
			l.text(s)
			if code != impl.Done || !slices.Equal(a.Words[at:at+l.at], want[:l.at]) {
				t.Fatalf("text %d of %d bytes is %d, %x", i, len(s), code, a.Words[at:at+l.at])
			}
			if a.To != was {
				flips, was = flips+1, a.To
			}
		}
		if flips < 10 {
			t.Error("only", flips, "flips")
		}
	}
}

// between is what may be done between two calls without anything told being another one.
type between struct {
	name string
	do   func(a impl.Arena) impl.Arena
}

func betweens() []between {
	steps := func(n int) func(a impl.Arena) impl.Arena {
		return func(a impl.Arena) impl.Arena { a, _ = impl.CopyStep(a, n); return a }
	}
	flipped := func(n int) func(a impl.Arena) impl.Arena {
		return func(a impl.Arena) impl.Arena { return steps(n)(flippedOf(a)) }
	}
	return []between{
		{"nothing", func(a impl.Arena) impl.Arena { return a }},
		{"a flip", flippedOf},
		{"a step", steps(1)},
		{"two steps", steps(2)},
		{"a flip and a step", flipped(1)},
		{"a flip and three steps", flipped(3)},
		{"a cycle", func(a impl.Arena) impl.Arena { a, _ = impl.Finish(flippedOf(a)); return a }},
		{"a collection", func(a impl.Arena) impl.Arena { a, _ = impl.Collect(a); return a }},
	}
}

// kept is an arena, and what its Roots are to tell: those that are texts.
type kept struct {
	impl.Arena
	texts map[int]string
}

// check tells all Roots, and compares each two of them: as they were put, with nothing in the arena changed.
func (k *kept) check(t *testing.T, name string) {
	t.Helper()
	was := allOf(k.Arena)
	k.tell(t, name)
	for r := range k.Roots {
		for s := range k.Roots {
			k.compare(t, name, r, s)
		}
	}
	if !sameArena(whole(k.Arena), was) {
		t.Fatalf("%s: what is told or compared changes the arena", name)
	}
	if !impl.ArenaOk(k.Arena) {
		t.Fatalf("%s: the arena is not right", name)
	}
}

func (k *kept) tell(t *testing.T, name string) {
	t.Helper()
	for r := range k.Roots {
		want, is := k.texts[r]
		if got, ok := impl.TextOf(k.Arena, r); got != want || ok != is {
			t.Fatalf("%s: the Root %d is told as %q, %v, want %q, %v", name, r, got, ok, want, is)
		}
	}
}

func (k *kept) compare(t *testing.T, name string, r int, s int) {
	t.Helper()
	one, isOne := k.texts[r]
	two, isTwo := k.texts[s]
	want := 0
	if isOne && isTwo {
		want = order(one, two)
	}
	if got, ok := impl.CompareText(k.Arena, r, s); got != want || ok != (isOne && isTwo) {
		t.Fatalf("%s: %q and %q are compared as %d, %v", name, one, two, got, ok)
	}
}

// note takes the arena behind a call that was to make a text of a Root.
func (k *kept) note(t *testing.T, name string, out impl.Arena, code int, into int, text string) {
	t.Helper()
	if code != impl.Done {
		t.Fatalf("%s: %q is %d", name, text, code)
	}
	k.Arena, k.texts[into] = out, text
	k.check(t, name)
}

func (k *kept) put(t *testing.T, name string, s string, into int) {
	t.Helper()
	out, code := impl.PutText(k.Arena, s, into)
	k.note(t, name+", put", out, code, into, s)
}

func (k *kept) join(t *testing.T, name string, r int, s int, into int) {
	t.Helper()
	out, code := impl.JoinText(k.Arena, r, s, into)
	k.note(t, name+", joined", out, code, into, k.texts[r]+k.texts[s])
}

// library has texts in Roots, one of them twice, a box of a text that no Root is, garbage, and two Roots that are spare.
func library(semi int, to int) impl.Arena {
	a := dirty(semi, to, 0)
	l := &layer{a.Words, a.Top}
	alpha := ref(impl.TStr, l.text("alpha"))
	l.text("garbage that is left behind")
	box := ref(impl.TCell, l.cell(ref(impl.TStr, l.text("in a box\xff"))))
	for _, s := range []string{"", "alphabet", "alpha\x80", motley(40, 0), "alpha"} {
		a.Roots = append(a.Roots, ref(impl.TStr, l.text(s)))
	}
	a.Roots = append(a.Roots, alpha, box, ref(impl.TFun, l.fun(1, 7, box)), impl.Val{}, num(alpha.N))
	a.Top, a.Serial = l.at, 2
	return a
}

func libraryTexts() map[int]string {
	return map[int]string{0: "", 1: "alphabet", 2: "alpha\x80", 3: motley(40, 0), 4: "alpha", 5: "alpha"}
}

// Texts are put, told, compared and joined in either half, in each stage of a cycle, with flips, steps and collections between.
func TestTextsInEachStage(t *testing.T) {
	for to := range 2 {
		for stage, a := range stages(library, 300, to) {
			for _, between := range betweens() {
				name := fmt.Sprintf("half %d, %s, %s between", to, stage, between.name)
				k := &kept{a, libraryTexts()}
				k.check(t, name)
				k.Arena = between.do(k.Arena)
				k.check(t, name)
				k.put(t, name, "new one", 8)
				k.Arena = between.do(k.Arena)
				k.check(t, name)
				k.join(t, name, 1, 8, 9)
				k.Arena = between.do(k.Arena)
				k.join(t, name, 9, 2, 0)
				k.join(t, name, 3, 3, 1)
				k.Arena = between.do(k.Arena)
				k.put(t, name, "", 9)
				k.join(t, name, 9, 9, 9)
				k.join(t, name, 9, 1, 8)
				k.Arena = between.do(k.Arena)
				k.check(t, name)
				k.Arena, _ = impl.Load(k.Arena, 6, 0, 5)
				k.texts[5] = "in a box\xff"
				k.check(t, name)
				k.Arena = between.do(k.Arena)
				k.join(t, name, 5, 4, 5)
			}
		}
	}
}

// The Root into is a text then, whatever it was ahead.
func TestTextIntoAnyRoot(t *testing.T) {
	for to := range 2 {
		for _, s := range kindsAtHand(300, to) {
			for name, into := range s.at {
				put, code := impl.PutText(s.Arena, "put", into)
				if got, ok := impl.TextOf(put, into); code != impl.Done || !ok || got != "put" {
					t.Errorf("into %s: %d, %q", name, code, got)
				}
				joined, code := impl.JoinText(s.Arena, s.at["text"], s.at["text"], into)
				if got, ok := impl.TextOf(joined, into); code != impl.Done || !ok || got != "a texta text" {
					t.Errorf("joined into %s: %d, %q", name, code, got)
				}
			}
		}
	}
}

// pairOf has two texts in the Roots 0 and 1, and a Root that is spare.
func pairOf(one string, two string) func(semi int, to int) impl.Arena {
	return func(semi int, to int) impl.Arena {
		a := dirty(semi, to, 3)
		l := &layer{a.Words, a.Top}
		a.Roots[0] = ref(impl.TStr, l.text(one))
		a.Roots[1] = ref(impl.TStr, l.text(two))
		a.Top = l.at
		return a
	}
}

// Joined to any length up to MaxText from any two, and to one more, which is refused.
func TestJoinedLengths(t *testing.T) {
	for to := range 2 {
		for _, all := range []int{0, 1, 2, 7, 8, 9, 15, 16, 17, 64, impl.MaxText - 1, impl.MaxText, impl.MaxText + 1} {
			for n := range all + 1 {
				if n > impl.MaxText || all-n > impl.MaxText {
					continue
				}
				one, two := motley(n, 'a'), motley(all-n, 0xff)
				a := pairOf(one, two)(impl.MinSemi, to)
				out, code := impl.JoinText(a, 0, 1, 2)
				if all > impl.MaxText {
					if code != impl.Bad || !sameArena(out, a) {
						t.Errorf("%d and %d bytes are joined: %d", n, all-n, code)
					}
					continue
				}
				if got, ok := impl.TextOf(out, 2); code != impl.Done || !ok || got != one+two || !impl.ArenaOk(out) {
					t.Errorf("%d and %d bytes are joined to %q: %d", n, all-n, got, code)
				}
			}
		}
		long := pairOf(motley(impl.MaxText, 1), motley(impl.MaxText, 1))(impl.MinSemi, to)
		for _, x := range [][3]int{{0, 1, 2}, {0, 0, 0}, {1, 0, 1}} {
			if out, code := impl.JoinText(long, x[0], x[1], x[2]); code != impl.Bad || !sameArena(out, long) {
				t.Error("the longest ones are joined", x, code)
			}
		}
	}
}

// r, s and into may be one Root, or any two of them.
func TestJoinedInOneRoot(t *testing.T) {
	for to := range 2 {
		for _, n := range []int{0, 1, 4, 7, 8, 9, 16, 17, 79, 80, 81} {
			one, two := motley(n, 'a'), motley(n, 0xf0)
			for stage, a := range stages(pairOf(one, two), impl.MinSemi, to) {
				for _, x := range []struct {
					r, s, into int
					want       string
				}{{0, 0, 0, one + one}, {0, 0, 1, one + one}, {0, 1, 0, one + two}, {0, 1, 1, one + two}, {1, 0, 1, two + one}, {1, 1, 2, two + two}} {
					out, code := impl.JoinText(a, x.r, x.s, x.into)
					if len(x.want) > impl.MaxText {
						if code != impl.Bad || !sameArena(out, a) {
							t.Errorf("%s: %d bytes twice are joined: %d", stage, n, code)
						}
						continue
					}
					k := &kept{a, map[int]string{0: one, 1: two}}
					k.note(t, stage, out, code, x.into, x.want)
				}
			}
		}
		// A text joined with itself in its own place, until it is too long.
		a, _ := impl.PutText(dirty(impl.MinSemi, to, 1), "z", 0)
		for n := 2; n <= 128; n *= 2 {
			var code int
			a, code = impl.JoinText(a, 0, 0, 0)
			if got, _ := impl.TextOf(a, 0); code != impl.Done || got != strings.Repeat("z", n) {
				t.Fatalf("joined to %q: %d", got, code)
			}
		}
		if out, code := impl.JoinText(a, 0, 0, 0); code != impl.Bad || !sameArena(out, a) {
			t.Error("256 bytes are joined", code)
		}
	}
}

// While a Cycle runs: one text was copied at the flip, one is loaded from a box that was not gone over, one was copied already but its box leads to where it was, one is new.
func TestJoinedWhileTheOneIsCopied(t *testing.T) {
	for to := range 2 {
		a := dirty(300, 1-to, 8)
		l := &layer{a.Words, a.Top}
		copied, left := l.text("copied \xff"), l.text("left behind")
		boxes := []int{l.cell(ref(impl.TStr, copied)), l.cell(ref(impl.TStr, left))}
		last := impl.Val{}
		for range 20 { // so that the cycle goes on for a while
			last = ref(impl.TCell, l.cell(last))
		}
		a.Top = l.at
		a.Roots[0], a.Roots[1], a.Roots[2] = last, ref(impl.TCell, boxes[0]), ref(impl.TCell, boxes[1])
		a.Roots[7] = ref(impl.TStr, copied)
		begun := flippedOf(a)
		if _, moved := impl.Forwarded(begun.Words[left]); moved || !begun.Cycle || begun.Words[copied]>>63 != 1 {
			t.Fatal("not copied as wanted")
		}
		k := &kept{begun, map[int]string{7: "copied \xff"}}
		k.Arena, _ = impl.Load(k.Arena, 1, 0, 3)
		k.texts[3] = "copied \xff"
		if k.Roots[3] != k.Roots[7] {
			t.Fatal("what was copied already is copied twice")
		}
		k.Arena, _ = impl.Load(k.Arena, 2, 0, 4)
		k.texts[4] = "left behind"
		k.put(t, "while the cycle runs", "new", 5)
		for _, x := range [][2]int{{7, 4}, {4, 7}, {3, 4}, {5, 4}, {7, 5}, {5, 3}, {3, 7}} {
			one := &kept{k.Arena, map[int]string{3: k.texts[3], 4: k.texts[4], 5: k.texts[5], 7: k.texts[7]}}
			one.join(t, fmt.Sprint("joined ", x), x[0], x[1], 6)
			if !one.Cycle {
				t.Error("the cycle is over")
			}
			one.Arena, _ = impl.Finish(one.Arena)
			one.check(t, fmt.Sprint("behind the cycle ", x))
		}
	}
}

// ascending has texts in their order: beginnings, texts that part in a byte above 127, and in another word than the first.
func ascending() []string {
	long := strings.Repeat("c", impl.MaxText-1)
	return []string{
		"", "\x00", "\x00\x00", "\x00\x00\x00\x00\x00\x00\x00\x00\x00", "\x00a", "\x01", "A", "AB", "Z", "a", "a\x00", "a\x00b", "aa",
		"aaaaaaa", "aaaaaaaa", "aaaaaaaa\x00", "aaaaaaaab", "aaaaaaaa\x7f", "aaaaaaaa\x80", "aaaaaaaa\xff", "aaaaaaab", "ab", "ba",
		long, long + "\x00", long + "c", long + "\xff",
		"z", "\x7f", "\x7f\xff", "\x80", "\xc3", "\xc3\xa9", "\xc4", "\xff", "\xff\x00", "\xff\xff",
	}
}

// Each two of them, in either order; of one of them the same bytes stand at two places.
func TestTextsInOrder(t *testing.T) {
	for i, one := range ascending() {
		for j, two := range ascending() {
			want := cmp.Compare(i, j)
			for stage, a := range stages(pairOf(one, two), impl.MinSemi, (i+j)%2) {
				if got, ok := impl.CompareText(a, 0, 1); !ok || got != want {
					t.Errorf("%s: %q and %q are compared as %d", stage, one, two, got)
				}
				if got, ok := impl.CompareText(a, 0, 0); !ok || got != 0 {
					t.Errorf("%s: %q is compared with itself as %d", stage, one, got)
				}
				if got := impl.SameRoots(a, 0, 1); got != (want == 0) || a.Roots[0] == a.Roots[1] {
					t.Errorf("%s: %q and %q are the same: %v", stage, one, two, got)
				}
			}
		}
	}
}

// What is only looked at is not forwarded: a slot that leads into the other half still does, and no step is taken.
func TestLookingForwardsNothing(t *testing.T) {
	for to := range 2 {
		for stage, a := range stages(library, 300, to) {
			in := roomy(a)
			was := allOf(in)
			for r := range a.Roots {
				impl.TextOf(in, r)
				for s := range a.Roots {
					impl.CompareText(in, r, s)
				}
			}
			if !sameArena(whole(in), was) {
				t.Errorf("%s: it is another one", stage)
			}
		}
		begun := stages(library, 300, to)["begun"]
		if v := slotOf(begun, begun.Roots[6].N, 0); v.N/300 == to {
			t.Error("the box does not lead into the other half")
		}
	}
}

// ramble makes one call by chance of an arena whose last two Roots are boxes, if anything, and keeps what is to be told then.
func (k *kept) ramble(r *rand.Rand, boxed map[int]string) int {
	texts := len(k.Roots) - 2
	from, other, into, box := r.Intn(texts), r.Intn(texts), r.Intn(texts), texts+r.Intn(2)
	code := impl.Done
	switch r.Intn(9) {
	case 0, 1, 2, 3:
		text := someText(r)
		if r.Intn(3) == 0 { // so that room lacks now and then
			text = motley(120+r.Intn(41), byte(r.Intn(256)))
		}
		if k.Arena, code = impl.PutText(k.Arena, text, into); code == impl.Done {
			k.texts[into] = text
		}
	case 4, 5:
		text := k.texts[from] + k.texts[other]
		if k.Arena, code = impl.JoinText(k.Arena, from, other, into); code == impl.Done {
			k.texts[into] = text
		}
	case 6:
		if text, ok := k.texts[from]; ok {
			if k.Arena, code = impl.NewCell(k.Arena, from, box); code == impl.Done {
				boxed[box] = text
			}
		} else if text, ok := boxed[box]; ok {
			k.Arena, _ = impl.Load(k.Arena, box, 0, into)
			k.texts[into] = text
		}
	case 7:
		k.Arena = betweens()[r.Intn(len(betweens()))].do(k.Arena)
	case 8:
		k.Arena, _ = impl.SetRoot(k.Arena, into, num(from))
		delete(k.texts, into)
	}
	return code
}

// A long run of puts, joins and boxes, while cycles begin and end: each text is told as it was put, until room lacks, and then still.
func TestTextsThroughManyCycles(t *testing.T) {
	t.Parallel()
	r := rand.New(rand.NewSource(5555))
	flips, lacks := 0, 0
	for range 12 {
		k := &kept{dirty(impl.MinSemi+r.Intn(60), r.Intn(2), 20), map[int]string{}}
		boxed := map[int]string{}
		for range 300 {
			was := k.To
			if k.ramble(r, boxed) == impl.NoMem {
				lacks++
			}
			if k.To != was {
				flips++
			}
			k.tell(t, "a long run")
			k.compare(t, "a long run", r.Intn(20), r.Intn(20))
		}
		k.check(t, "behind a long run")
	}
	if flips < 100 || lacks < 50 {
		t.Error("too few of some:", flips, "flips,", lacks, "times no room")
	}
}
