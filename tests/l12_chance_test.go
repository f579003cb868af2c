package tests

import (
	"math/rand"
	"strings"
	"testing"

	"loop.example/g00101/impl"
)

// movedBy does one of the three by chance, or nothing.
func movedBy(r *rand.Rand, m impl.Machine) impl.Machine {
	switch r.Intn(6) {
	case 0:
		m, _ = impl.FlipNow(m)
	case 1, 2:
		m, _ = impl.CopyNow(m, r.Intn(5))
	case 3:
		if r.Intn(4) == 0 {
			m, _ = impl.CollectNow(m)
		}
	}
	return m
}

// Each step of programs by chance, in arenas in which a cycle runs or none does, word by word as the model has it.
func TestStepsAgainstTheModel(t *testing.T) {
	t.Parallel()
	r := rand.New(rand.NewSource(121))
	seen := map[string]int{}
	for range 180 {
		module, text := someModule(r, 3+r.Intn(10))
		m := bootOf(t, module, impl.MinSemi+r.Intn(400))
		for range 150 {
			if m.State != 0 {
				break
			}
			m = movedBy(r, m)
			word, _, _ := strings.Cut(nextTold(m), " ")
			if m.Cycle {
				word += " in a cycle"
			}
			seen[word]++
			m = checkDo(t, text, m)
		}
	}
	for _, word := range opWords[1:] {
		least := 20
		if word == "setup" || word == "setbox" || word == "and" || word == "or" {
			least = 1
		}
		if seen[word]+seen[word+" in a cycle"] < least {
			t.Error(word, "is done", seen[word], "times")
		}
	}
	if seen["call in a cycle"] < 100 || seen["call"] < 100 {
		t.Error("calls", seen["call"], seen["call in a cycle"])
	}
}
