package tests

import (
	"fmt"
	"math/big"
	"math/rand"
	"regexp"
	"slices"
	"strconv"
	"strings"
	"testing"

	"loop.example/g00101/impl"
)

// modelListing goes by the document's words, line by line.
func modelListing(m impl.Module) (string, bool) {
	if !modelModuleOk(m) {
		return "", false
	}
	text := ""
	for _, one := range m.Texts {
		for i := range len(one) {
			if one[i] < 32 || one[i] > 126 {
				return "", false
			}
		}
		text += "text " + one + "\n"
	}
	for _, p := range m.Protos {
		lines := []string{fmt.Sprintf("proto %d %d", p.Params, p.Slots)}
		for _, up := range p.Ups {
			lines = append(lines, fmt.Sprintf("%s %d", map[bool]string{true: "local", false: "up"}[up.Local], up.Index))
		}
		lines = append(lines, "code")
		for _, i := range p.Code {
			lines = append(lines, fmt.Sprintf("%s %d", opWords[i.Op], i.A))
		}
		text += strings.Join(lines, "\n") + "\n"
	}
	return text, true
}

// The forms of what stands in a listing.
const (
	numberForm = `(?:0|-?[1-9][0-9]*)`
	protoForm  = `proto (` + numberForm + `) (` + numberForm + `)\n((?:(?:local|up) ` + numberForm + `\n)*)code\n((?:[a-z]+ ` + numberForm + `\n)+)`
	textForm   = `text ([ -~]*)\n`
)

var (
	wholeForm = regexp.MustCompile(`\A((?:` + textForm + `)*)((?:` + protoForm + `)+)\z`)
	eachText  = regexp.MustCompile(textForm)
	eachProto = regexp.MustCompile(protoForm)
)

// modelRead reads a listing by its form, with nothing passed over.
func modelRead(text string) (impl.Module, bool) {
	whole := wholeForm.FindStringSubmatch(text)
	if whole == nil || len(text) > 60000 {
		return impl.Module{}, false
	}
	var m impl.Module
	fits := true
	number := func(digits string) int {
		n, err := strconv.ParseInt(digits, 10, 64)
		fits = fits && err == nil
		return int(n)
	}
	for _, one := range eachText.FindAllStringSubmatch(whole[1], -1) {
		m.Texts = append(m.Texts, one[1])
	}
	for _, one := range eachProto.FindAllStringSubmatch(whole[3], -1) {
		p := impl.Proto{Params: number(one[1]), Slots: number(one[2])}
		for words := strings.Fields(one[3]); len(words) > 0; words = words[2:] {
			p.Ups = append(p.Ups, impl.Up{Local: words[0] == "local", Index: number(words[1])})
		}
		for words := strings.Fields(one[4]); len(words) > 0; words = words[2:] {
			p.Code = append(p.Code, ins(slices.Index(opWords, words[0]), number(words[1])))
		}
		m.Protos = append(m.Protos, p)
	}
	if !fits || !modelModuleOk(m) {
		return impl.Module{}, false
	}
	return m, true
}

// checkListed: the module's listing is what the model says, is read as the module, and is listed again as the same text.
func checkListed(t *testing.T, name string, m impl.Module) string {
	t.Helper()
	want, isOne := modelListing(m)
	text, ok := impl.Listing(m)
	if text != want || ok != isOne {
		t.Fatalf("%s: listed %v\n%.2000s\nwant %v\n%.2000s", name, ok, text, isOne, want)
	}
	if !ok {
		return ""
	}
	back, ok := impl.ReadListing(text)
	if len(text) > 60000 {
		if ok || len(back.Protos) != 0 || len(back.Texts) != 0 {
			t.Fatalf("%s: %d bytes are read", name, len(text))
		}
		return text
	}
	if !ok || !impl.ModuleSame(back, m) || !slices.Equal(toldModule(back), toldModule(m)) {
		t.Fatalf("%s: read %v\n%.2000s\nof\n%.2000s", name, ok, strings.Join(toldModule(back), "\n"), text)
	}
	if again, ok := impl.Listing(back); !ok || again != text {
		t.Fatalf("%s: listed again %v\n%.2000s\nwas\n%.2000s", name, ok, again, text)
	}
	return text
}

// checkRead holds ReadListing against the model, and tells whether the text is a listing.
func checkRead(t *testing.T, name string, text string) bool {
	t.Helper()
	want, isOne := modelRead(text)
	m, ok := impl.ReadListing(text)
	if ok != isOne || !impl.ModuleSame(m, want) {
		t.Fatalf("%s: read %v, want %v\n%.2000s\nof\n%.2000q", name, ok, isOne, strings.Join(toldModule(m), "\n"), text)
	}
	if !ok {
		return false
	}
	if again, listed := impl.Listing(m); !listed || again != text {
		t.Fatalf("%s: it is read, but listed %v as\n%.2000s\nnot\n%.2000s", name, listed, again, text)
	}
	return true
}

// checkNoListing: the text is none, by the model as well.
func checkNoListing(t *testing.T, name string, text string) {
	t.Helper()
	if checkRead(t, name, text) {
		t.Errorf("%s: it is read: %.2000q", name, text)
	}
}

// modelJumps has each place once.
func modelJumps(p impl.Proto) []int {
	var places []int
	for _, i := range p.Code {
		if i.Op < impl.OJump || i.Op > impl.OOr || slices.Contains(places, i.A) {
			continue
		}
		at := 0
		for at < len(places) && places[at] < i.A {
			at++
		}
		places = slices.Insert(places, at, i.A)
	}
	return places
}

// arrival is how a place is come to.
type arrival struct {
	place int
	depth *big.Int
}

// laid is how many values an instruction lays down, less those that it takes, where it goes on.
func laid(i impl.Ins) *big.Int {
	switch {
	case i.Op == impl.OCall:
		n := big.NewInt(int64(i.A))
		n.Add(n, big.NewInt(2))
		return n.Neg(n)
	case i.Op < 1 || i.Op >= len(opWords):
		return big.NewInt(0)
	}
	return big.NewInt(map[string]int64{
		"nil": 1, "bool": 1, "int": 1, "text": 1, "local": 1, "boxed": 1, "up": 1, "fn": 1, "tab": 1, "dup": 1, "lib": 1, "mark": 2,
		"set": -1, "setbox": -1, "setup": -1, "pop": -1, "return": -1, "jumpnot": -1, "index": -1, "op": -1, "and": -1, "or": -1, "put": -3,
	}[opWords[i.Op]])
}

// arrivals are those at the places that an instruction leads to, in order.
func arrivals(i impl.Ins, a arrival) []arrival {
	behind := new(big.Int).Add(a.depth, laid(i))
	on := arrival{a.place + 1, behind}
	switch i.Op {
	case impl.OReturn:
		return nil
	case impl.OJump:
		return []arrival{{i.A, a.depth}}
	case impl.OJumpNot:
		return []arrival{on, {i.A, behind}}
	case impl.OAnd, impl.OOr:
		return []arrival{on, {i.A, a.depth}}
	}
	return []arrival{on}
}

// modelDepths has all arrivals stand in a line: who came first is gone on from first. One with less than no values, or with more than a number tells, is none.
func modelDepths(p impl.Proto) []int {
	told := map[int]int{}
	line := []arrival{{0, big.NewInt(0)}}
	for len(line) > 0 {
		a := line[0]
		line = line[1:]
		if a.place < 0 || a.place >= len(p.Code) || a.depth.Sign() < 0 || !a.depth.IsInt64() {
			continue
		}
		if _, was := told[a.place]; !was {
			told[a.place] = int(a.depth.Int64())
			line = append(line, arrivals(p.Code[a.place], a)...)
		}
	}
	var list []int
	for at := range p.Code {
		depth, was := told[at]
		if !was {
			depth = -1
		}
		list = append(list, depth)
	}
	return list
}

// checkPlaces holds Jumps and Depths of a Proto, right or not, against the models.
func checkPlaces(t *testing.T, name string, p impl.Proto) {
	t.Helper()
	if got, want := impl.Jumps(p), modelJumps(p); !slices.Equal(got, want) {
		t.Fatalf("%s: jumps %v, want %v, of %.2000s", name, got, want, toldProto(p))
	}
	if got, want := impl.Depths(p), modelDepths(p); !slices.Equal(got, want) {
		t.Fatalf("%s: depths %v, want %v, of %.2000s", name, got, want, toldProto(p))
	}
}

// lineText is a text by chance that may stand in a line.
func lineText(r *rand.Rand) string {
	words := []string{"", " ", "  ", "text", "proto", "code", "proto 0 0", "nil 0", "local 0", "-", "0", "~", "!", "\"", "a b ", " a"}
	text := words[r.Intn(len(words))]
	for range r.Intn(6) {
		text += string(rune(32 + r.Intn(95)))
	}
	return text
}

// listedModule is a right one by chance that no program has: any texts, Ups with any Index where nobody makes their function, numbers of any size.
func listedModule(r *rand.Rand) impl.Module {
	k := &tinker{Rand: r}
	k.makeModule()
	m := k.module
	for i := range m.Texts {
		m.Texts[i] = lineText(r)
	}
	far := impl.Proto{Params: r.Intn(3), Slots: 3, Code: ended(ins(impl.OInt, int(r.Uint64())), ins(impl.OInt, -r.Intn(3)))}
	for range r.Intn(4) {
		far.Ups = append(far.Ups, impl.Up{Local: r.Intn(2) == 0, Index: int(r.Uint64()) >> r.Intn(64)})
	}
	if r.Intn(2) == 0 {
		m.Protos = append(m.Protos, far)
	}
	return m
}
