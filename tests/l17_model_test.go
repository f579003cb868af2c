package tests

import (
	"fmt"
	"slices"
	"strings"
	"testing"

	"loop.example/g00101/impl"
)

// seer looks at the coroutine that runs of a right machine, by the document's words and the model of steps.
type seer struct{ *stepper }

// seerOf answers false when there is no frame to look at.
func seerOf(m impl.Machine) (seer, bool) {
	s := seer{&stepper{Machine: m}}
	return s, m.Roots[0].Tag == impl.TCo && s.word(3) >= 3
}

// number is that of a function's Proto, -1 for all that has none.
func (s seer) number(v impl.Val) int {
	if v.Tag == impl.TFun && s.Words[s.there(v)+1] < uint64(len(s.Module.Protos)) {
		return int(s.Words[s.there(v)+1])
	}
	return -1
}

func isWholeFrom(v impl.Val, least int, most int) bool {
	return v.Tag == impl.TInt && v.N >= least && v.N <= most
}

// frames goes down by the links, as far as there are some.
func (s seer) frames() []impl.Frame {
	base, place := s.word(3), s.word(4)
	var list []impl.Frame
	for {
		f := impl.Frame{Proto: s.number(s.val(base - 1)), Place: place, Base: base}
		if base == 3 {
			return append(list, f)
		}
		low, up := s.val(base-3), s.val(base-2)
		upOk := isWholeFrom(up, 0, 8191)
		f.Caught = upOk && up.N&1 > 0
		list = append(list, f)
		if !upOk || !isWholeFrom(low, 3, base-3) {
			return list
		}
		base, place = low.N, up.N>>1
	}
}

func (s seer) text(v impl.Val) string {
	if v.Tag == impl.TCell {
		return "box"
	}
	return s.textOfVal(v)
}

func (s seer) localText(v impl.Val) string {
	if v.Tag != impl.TCell {
		return s.text(v)
	}
	has, _ := impl.GetVal(s.Words, s.there(v)+1)
	return "=" + s.text(has)
}

func (s seer) locals(f impl.Frame) []string {
	var list []string
	if f.Proto < 0 {
		return list
	}
	for i := range s.Module.Protos[f.Proto].Slots {
		if f.Base+i < s.word(2) {
			list = append(list, s.localText(s.val(f.Base+i)))
		}
	}
	return list
}

// modelFrames and the others of that kind take right machines alone.
func modelFrames(m impl.Machine) []impl.Frame {
	if s, ok := seerOf(m); ok {
		return s.frames()
	}
	return nil
}

func modelStack(m impl.Machine) []string {
	s, ok := seerOf(m)
	var list []string
	for i := 0; ok && i < s.word(2); i++ {
		list = append(list, s.text(s.val(i)))
	}
	return list
}

func modelLocals(m impl.Machine, k int) []string {
	frames := modelFrames(m)
	if k < 0 || k >= len(frames) {
		return nil
	}
	s, _ := seerOf(m)
	return s.locals(frames[k])
}

// standsAt: the frame that runs has that Proto and place.
func standsAt(m impl.Machine, proto int, place int) bool {
	frames := modelFrames(m)
	return len(frames) > 0 && frames[0].Proto == proto && frames[0].Place == place
}

func modelRunTo(m impl.Machine, proto int, place int, fuel int) (impl.Machine, int) {
	if fuel < 0 || fuel > 4000 {
		return m, 0
	}
	// A machine whose Steps have wrapped round is not right any more.
	for done := 0; done < fuel && m.State == 0 && m.Steps >= 0; done++ {
		if standsAt(m, proto, place) {
			return m, 4
		}
		m, _ = impl.Step(m)
	}
	if m.State == 0 {
		return m, 3
	}
	return m, m.State
}

func modelProfile(m impl.Machine, fuel int) []int {
	if fuel < 0 || fuel > 4000 {
		return nil
	}
	counts := make([]int, len(m.Module.Protos))
	for done := 0; done < fuel && m.State == 0 && m.Steps >= 0; done++ {
		if frames := modelFrames(m); len(frames) > 0 && frames[0].Proto >= 0 {
			counts[frames[0].Proto]++
		}
		m, _ = impl.Step(m)
	}
	return counts
}

// toldFrames: "1 4 9!; 0 2 3" is Proto 1 at the place 4 with the base 9, which is caught, then Proto 0.
func toldFrames(list []impl.Frame) string {
	var parts []string
	for _, f := range list {
		part := fmt.Sprint(f.Proto, " ", f.Place, " ", f.Base)
		if f.Caught {
			part += "!"
		}
		parts = append(parts, part)
	}
	return strings.Join(parts, "; ")
}

// seen is all that is told of where a machine is, and what it has.
func seen(m impl.Machine) string {
	frames := impl.Backtrace(m)
	text := fmt.Sprintf("%s\n%q\n", toldFrames(frames), impl.StackTexts(m))
	for k := range frames {
		text += fmt.Sprintf("%q\n", impl.Locals(m, k))
	}
	return text
}

// checkSeen holds what is seen of a right machine against the model.
func checkSeen(t *testing.T, name string, m impl.Machine) {
	t.Helper()
	frames := impl.Backtrace(m)
	if want := modelFrames(m); !slices.Equal(frames, want) {
		t.Fatalf("%s: the frames are %s, want %s of\n%s", name, toldFrames(frames), toldFrames(want), toldMachine(m))
	}
	if n := impl.DeepOf(m); n != len(frames) {
		t.Fatalf("%s: %d frames, and DeepOf tells %d", name, len(frames), n)
	}
	if got, want := impl.StackTexts(m), modelStack(m); !slices.Equal(got, want) {
		t.Fatalf("%s: the stack is %q, want %q of\n%s", name, got, want, toldMachine(m))
	}
	for k := -1; k <= len(frames); k++ {
		if got, want := impl.Locals(m, k), modelLocals(m, k); !slices.Equal(got, want) {
			t.Fatalf("%s: the locals of the frame %d are %q, want %q of\n%s", name, k, got, want, toldMachine(m))
		}
	}
}

// worn is a machine in whose other half nothing is left of what was copied, but where it was copied to.
func worn(m impl.Machine) impl.Machine {
	m.Words = slices.Clone(m.Words)
	for at := (1-m.To)*m.Semi + 1; at < m.Old; {
		to, copied := impl.Forwarded(m.Words[at])
		if !copied {
			to = at
		}
		h, _ := impl.ReadHead(m.Words[to])
		for i := at + 1; copied && i <= at+h.Size; i++ {
			m.Words[i] = 0xDEAD
		}
		at += h.Size + 1
	}
	return m
}

// movedEach has a machine, then as it is behind a flip, at each step of copying, and behind a collection.
func movedEach(m impl.Machine) []impl.Machine {
	list := []impl.Machine{m}
	collected, _ := impl.CollectNow(m)
	m, _ = impl.FlipNow(m)
	list = append(list, m, worn(m))
	for m.Cycle {
		m, _ = impl.CopyNow(m, 1)
		list = append(list, m, worn(m))
	}
	m, _ = impl.FlipNow(m)
	return append(list, m, worn(m), collected)
}

// checkSeenMoved: the same is seen whatever is flipped and copied. It tells how many frames there are.
func checkSeenMoved(t *testing.T, name string, m impl.Machine) int {
	t.Helper()
	want := seen(m)
	for i, moved := range movedEach(m) {
		if got := seen(moved); got != want {
			t.Fatalf("%s: moved %d times there is seen\n%s\nwant\n%s", name, i, got, want)
		}
		checkSeen(t, name, moved)
	}
	return len(impl.Backtrace(m))
}

func checkRunTo(t *testing.T, name string, m impl.Machine, proto int, place int, fuel int) (impl.Machine, int) {
	t.Helper()
	got, code := impl.RunTo(m, proto, place, fuel)
	want, answer := modelRunTo(m, proto, place, fuel)
	if code != answer || !sameMachine(got, want) {
		t.Fatalf("%s: to Proto %d, place %d with %d it answers %d, want %d\n%s\nwant\n%s", name, proto, place, fuel, code, answer, toldMachine(got), toldMachine(want))
	}
	return got, code
}

func checkProfile(t *testing.T, name string, m impl.Machine, fuel int) []int {
	t.Helper()
	got, want := impl.Profile(m, fuel), modelProfile(m, fuel)
	if !slices.Equal(got, want) {
		t.Fatalf("%s: with %d the profile is %v, want %v of\n%s", name, fuel, got, want, toldMachine(m))
	}
	return got
}
