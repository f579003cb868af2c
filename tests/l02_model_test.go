package tests

import (
	"math/rand"
	"testing"

	"loop.example/g00101/impl"
)

// model goes over an arena by the document's points, thing by thing, without haste: the program is held against it.
type model struct {
	impl.Arena
	objects map[int]impl.Head // of both halves, but those that are forwarded
	leads   map[int]int       // of the other half, where its forwarded words lead
	lead    map[int]int       // the same, from there
}

func modelOk(a impl.Arena) bool {
	if a.Semi < impl.MinSemi || a.Semi > impl.MaxSemi || len(a.Words) != 2*a.Semi || a.To < 0 || a.To > 1 {
		return false
	}
	if a.Top <= a.To*a.Semi || a.Top > a.To*a.Semi+a.Semi || a.Serial <= 0 || a.Serial > impl.MaxSerial || len(a.Roots) > impl.MaxRoots {
		return false
	}
	m := model{a, map[int]impl.Head{}, map[int]int{}, map[int]int{}}
	return m.point2() && m.point3() && m.serials() && m.point4() && m.point5()
}

func (m model) point2() bool {
	at := m.To*m.Semi + 1
	for at < m.Top {
		h, ok := impl.ReadHead(m.Words[at])
		if !ok {
			return false
		}
		m.objects[at] = h
		at += 1 + h.Size
	}
	return at == m.Top
}

func (m model) point3() bool {
	if !m.Cycle {
		return m.Scan == 0 && m.Old == 0 && m.Copied == 0
	}
	if _, stands := m.objects[m.Scan]; !stands && m.Scan != m.Top {
		return false
	}
	first := (1-m.To)*m.Semi + 1
	if m.Old < first || m.Old > first-1+m.Semi {
		return false
	}
	inUse := map[int]impl.Head{}
	for at, h := range m.objects {
		inUse[at] = h
	}
	at, copied := first, 0
	for at < m.Old {
		if to, ok := impl.Forwarded(m.Words[at]); ok {
			h, stands := inUse[to]
			if _, twice := m.lead[to]; twice || !stands {
				return false
			}
			m.lead[to], m.leads[at] = at, to
			copied += h.Size + 1
			at += h.Size + 1
			continue
		}
		h, ok := impl.ReadHead(m.Words[at])
		if !ok {
			return false
		}
		m.objects[at] = h
		at += h.Size + 1
	}
	return at == m.Old && copied == m.Copied && m.Top+(m.Old-first-m.Copied) <= m.To*m.Semi+m.Semi
}

func (m model) serials() bool {
	seen := map[int]bool{}
	for _, h := range m.objects {
		if h.Serial >= m.Serial || h.Serial != 0 && seen[h.Serial] {
			return false
		}
		seen[h.Serial] = true
	}
	return true
}

func (m model) inUse(at int) bool { return at/m.Semi == m.To }

// come is the object that a reference comes to, 0 for none of its kind.
func (m model) come(v impl.Val) int {
	kinds := map[int]int{impl.TStr: impl.KStr, impl.TTab: impl.KTab, impl.TFun: impl.KFun, impl.TCo: impl.KCo, impl.TBlk: impl.KBlk, impl.TCell: impl.KCell}
	at := v.N
	if to, moved := m.leads[at]; moved {
		at = to
	}
	if h, stands := m.objects[at]; !stands || h.Kind != kinds[v.Tag] {
		return 0
	}
	return at
}

func (m model) point4() bool {
	for at, h := range m.objects {
		for i, slot := range impl.Slots(h.Kind, h.Size) {
			v, ok := impl.GetVal(m.Words, at+slot)
			if !ok || !m.slotOk(at, h, i, v) || v.Tag == impl.TBlk && h.Kind != impl.KTab {
				return false
			}
			if impl.IsRef(v) && (m.come(v) == 0 || !m.halvesOk(at, v.N)) {
				return false
			}
		}
		if !m.wordsOk(at, h) {
			return false
		}
	}
	blocks := map[int]int{}
	for at, h := range m.objects {
		if h.Kind == impl.KTab && !m.tableOk(at, blocks) {
			return false
		}
	}
	return true
}

func (m model) halvesOk(from int, to int) bool {
	switch {
	case !m.inUse(from):
		return !m.inUse(to)
	case m.Cycle && from >= m.Scan:
		return true
	}
	return m.inUse(to)
}

func (m model) slotOk(at int, h impl.Head, i int, v impl.Val) bool {
	switch h.Kind {
	case impl.KTab:
		return v.Tag == impl.TNil || v.Tag == impl.TBlk
	case impl.KBlk:
		return v.Tag != impl.TCell
	case impl.KFun:
		return v.Tag == impl.TCell
	case impl.KCo:
		if i == 0 {
			return v.Tag == impl.TNil || v.Tag == impl.TCo
		}
		return v.Tag == impl.TNil || uint64(i-1) < m.Words[at+2]
	}
	return true
}

func (m model) wordsOk(at int, h impl.Head) bool {
	w := m.Words[at+1:]
	switch h.Kind {
	case impl.KStr:
		if w[0] > impl.MaxText || int(w[0]) > 8*(h.Size-1) || int(w[0]) <= 8*(h.Size-2) {
			return false
		}
		for i := int(w[0]); i < 8*(h.Size-1); i++ {
			if m.byteAt(at, i) != 0 {
				return false
			}
		}
	case impl.KFun:
		return w[0] < 256
	case impl.KCo:
		return w[0] < 5 && w[1] < 61 && w[2] <= w[1] && w[3] < 4096
	}
	return true
}

func (m model) byteAt(text int, i int) byte {
	w := m.Words[text+2+i/8]
	for range i % 8 {
		w /= 256
	}
	return byte(w % 256)
}

func (m model) textOf(at int) string {
	s := ""
	for i := range int(m.Words[at+1]) {
		s += string([]byte{m.byteAt(at, i)})
	}
	return s
}

func (m model) tableOk(at int, blocks map[int]int) bool {
	slot, _ := impl.GetVal(m.Words, at+2)
	if slot.Tag == impl.TNil {
		return m.Words[at+1] == 0
	}
	block := m.come(slot)
	if blocks[block] != 0 {
		return false
	}
	blocks[block] = at
	capacity := m.objects[block].Size / 4
	keys := make([]impl.Val, capacity)
	used := 0
	for i := range keys {
		keys[i], _ = impl.GetVal(m.Words, block+1+4*i)
		if keys[i].Tag != impl.TNil {
			used++
		}
	}
	if uint64(used) != m.Words[at+1] || 4*used > 3*capacity {
		return false
	}
	for i, k := range keys {
		if k.Tag != impl.TNil && !m.foundAt(keys, i) {
			return false
		}
	}
	return true
}

func (m model) foundAt(keys []impl.Val, want int) bool {
	for i := m.hash(keys[want]) % len(keys); ; i = (i + 1) % len(keys) {
		if i == want {
			return true
		}
		if keys[i].Tag == impl.TNil || m.same(keys[i], keys[want]) {
			return false
		}
	}
}

func (m model) same(v impl.Val, w impl.Val) bool {
	if v.Tag != w.Tag {
		return false
	}
	if v.Tag == impl.TStr {
		return m.textOf(m.come(v)) == m.textOf(m.come(w))
	}
	if impl.IsRef(v) {
		return m.come(v) == m.come(w)
	}
	return v.N == w.N
}

func (m model) hash(v impl.Val) int {
	switch v.Tag {
	case impl.TInt:
		return int(uint64(v.N) % 1000003)
	case impl.TLib:
		return v.N + 7
	case impl.TStr:
		h := 5381
		for _, b := range []byte(m.textOf(m.come(v))) {
			h = (h*33 + int(b)) % 1000003
		}
		return h
	case impl.TTab, impl.TFun, impl.TCo:
		return m.objects[m.come(v)].Serial
	}
	return v.N
}

func (m model) point5() bool {
	for _, v := range m.Roots {
		if !impl.ValOk(v) || v.Tag == impl.TBlk {
			return false
		}
		if impl.IsRef(v) && (m.come(v) == 0 || !m.inUse(v.N)) {
			return false
		}
	}
	return true
}

// likelyWord is one of the words that are right somewhere, or nearly.
func likelyWord(r *rand.Rand, s sample) uint64 {
	switch r.Intn(6) {
	case 0:
		return uint64(r.Intn(12))
	case 1:
		return s.Words[r.Intn(len(s.Words))]
	case 2:
		return 1<<63 + uint64(likelyPlace(r, s))
	case 3:
		heads := rightHeads()
		w, _ := impl.PackHead(heads[r.Intn(len(heads))])
		return w
	}
	return uint64(likelyPlace(r, s))
}

func likelyPlace(r *rand.Rand, s sample) int {
	n := r.Intn(len(s.at))
	for _, at := range sortedPlaces(s) {
		if n == 0 {
			return at
		}
		n--
	}
	return 0
}

// turnAtRandom changes one thing of an arena: a word, a field, a root.
func turnAtRandom(r *rand.Rand, s *sample) {
	switch r.Intn(12) {
	case 0:
		fields := []*int{&s.Top, &s.Scan, &s.Old, &s.Copied, &s.Serial}
		*fields[r.Intn(5)] += r.Intn(7) - 3
	case 1:
		fields := []*int{&s.Top, &s.Scan, &s.Old}
		*fields[r.Intn(3)] = likelyPlace(r, *s)
	case 2:
		if len(s.Roots) > 0 {
			s.Roots[r.Intn(len(s.Roots))] = impl.Val{Tag: r.Intn(11), N: likelyPlace(r, *s)}
		}
	case 3, 4, 5:
		at := likelyPlace(r, *s) + r.Intn(20)
		s.Words[min(at, len(s.Words)-1)] = likelyWord(r, *s)
	case 6, 7, 8: // a whole slot
		at := likelyPlace(r, *s) + 1 + r.Intn(10)
		copy(s.Words[at:], pairs(impl.Val{Tag: r.Intn(10), N: likelyPlace(r, *s)}))
	case 9:
		at := likelyPlace(r, *s) + 1 + r.Intn(10)
		s.Words[at] += uint64(r.Intn(3) - 1)
	default: // an entry of a block goes elsewhere
		for _, name := range []string{"block", "old block", "copy block"} {
			if at, ok := s.at[name]; ok {
				swapEntries(s.Words[at+1:], r.Intn(4), r.Intn(4))
			}
		}
	}
}

func swapEntries(words []uint64, i int, j int) {
	for k := range 4 {
		words[4*i+k], words[4*j+k] = words[4*j+k], words[4*i+k]
	}
}

func TestArenaOkAgainstTheModel(t *testing.T) {
	t.Parallel()
	r := rand.New(rand.NewSource(2))
	right, wrong := 0, 0
	for range 40000 {
		s := stillSample(impl.MinSemi, r.Intn(2))
		if r.Intn(3) > 0 {
			s = cycleSample(impl.MinSemi, s.To)
		}
		for range 1 + r.Intn(3) {
			turnAtRandom(r, &s)
		}
		want := modelOk(s.Arena)
		if impl.ArenaOk(s.Arena) != want {
			t.Fatalf("ArenaOk is %v: %+v", !want, s)
		}
		if want {
			right++
		} else {
			wrong++
		}
	}
	if right < 1000 || wrong < 1000 {
		t.Error("too few of either kind:", right, "right", wrong, "wrong")
	}
}
