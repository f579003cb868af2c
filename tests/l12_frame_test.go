package tests

import (
	"fmt"
	"testing"

	"loop.example/g00101/impl"
)

// frameAt: the base and the place are these.
func frameAt(base int, place int) func(s *scene) {
	return func(s *scene) {
		s.Words[s.place("run")+3] = uint64(base)
		s.Words[s.place("run")+4] = uint64(place)
	}
}

// and does both.
func and(list ...func(s *scene)) func(s *scene) {
	return func(s *scene) {
		for _, do := range list {
			do(s)
		}
	}
}

func failed(is bool) func(s *scene) { return func(s *scene) { s.Failed = is } }

func TestReturns(t *testing.T) {
	back := ins(impl.OReturn, 0)
	checkDeeds(t,
		// Into the frame below, at half the upper link; what stands above is gone with the frame.
		deed{i: back, stack: "self 1 | 5 / 3 6 self 2 | ab", copies: "ab", then: "self 1 | 5 *ab", more: frameAt(3, 3)},
		deed{i: back, stack: "self 1 | / 3 0 self 2 | cd 8 9 nil", then: "self 1 | nil", more: frameAt(3, 0)},
		deed{i: back, stack: "self | / 3 8190 self | 4", then: "self | 4", more: frameAt(3, 4095)},
		// The base that the lower link says, though frames lie between.
		deed{i: back, stack: "self | / 3 4 self | / 6 2 self | table", copies: "table", then: "self | / 3 4 self | *table", more: frameAt(6, 1)},
		deed{i: back, stack: "self | / 3 4 self | / 3 2 self | 1", then: "self | / 3 4 self | 1", more: frameAt(3, 1)},
		// Failed stays as it is, but where the frame was caught.
		deed{i: back, stack: "self | / 3 6 self | 1", then: "self | 1", ahead: failed(true), more: frameAt(3, 3)},
		deed{i: back, stack: "self | / 3 7 self | 1", then: "self | 1", ahead: failed(true), more: and(frameAt(3, 3), failed(false))},
		deed{i: back, stack: "self | / 3 8191 self | 1", then: "self | 1", more: frameAt(3, 4095)},
	)
	// In the lowest frame all is over; no other is told than that.
	for _, v := range someOfEach() {
		checkDeed(t, deed{i: back, stack: "self 1 | 2 " + v, copies: objectsOf(v), then: "", ahead: failed(true), more: func(s *scene) {
			endsWith(impl.Val{})(s)
			s.State = impl.MachDone
		}})
	}
}

// divides is a deed that raises ErrZero: the value is 2.
func divides(ahead string, then string, more func(s *scene)) deed {
	return deed{i: ins(impl.OOp, impl.OpDiv), stack: ahead + " 1 0", then: then, more: more}
}

func TestErrorsThatAreCaught(t *testing.T) {
	checkDeeds(t,
		// By the frame that runs: it is gone with its links.
		divides("self 1 | 5 / 3 7 self 2 | ab", "self 1 | 5 2", and(frameAt(3, 3), failed(true))),
		divides("self | / 3 1 self |", "self | 2", and(frameAt(3, 0), failed(true))),
		divides("self | / 3 8191 self |", "self | 2", and(frameAt(3, 4095), failed(true))),
		// By the first one below that is.
		divides("self | / 3 9 self | / 6 4 self | / 9 6 self |", "self | 2", and(frameAt(3, 4), failed(true))),
		divides("self | / 3 9 self | 8 / 6 5 self | / 10 6 self |", "self | / 3 9 self | 8 2", and(frameAt(6, 2), failed(true))),
		divides("self | / 3 9 self | / 6 5 self | / 9 7 self |", "self | / 3 9 self | / 6 5 self | 2", and(frameAt(9, 3), failed(true))),
		// A lower link may pass over a frame that is caught.
		divides("self | / 3 9 self | / 3 4 self |", "", endsWith(num(impl.ErrZero))),
		// None is.
		divides("self | / 3 4 self | / 6 2 self |", "", endsWith(num(impl.ErrZero))),
	)
	// The lowest one never is, whatever its links say.
	d := divides("self |", "", endsWith(num(impl.ErrZero)))
	d.ahead = func(s *scene) { copy(s.Words[s.place("run")+7:], pairs(num(3), num(7))) }
	checkDeed(t, d)
	// Any value goes to who catches it, where it was loaded to.
	for _, v := range someOfEach() {
		checkDeed(t, deed{i: ins(impl.OCall, 1), stack: "self 1 | 5 / 3 7 self 2 | ab 0 0 lib:6 " + v, copies: objectsOf(v), then: "self 1 | 5 *" + v, more: and(frameAt(3, 3), failed(true))})
	}
}

// Deep and Short are told of errors that are caught, too, and stay.
func TestDeepAndShortOfWhatIsCaught(t *testing.T) {
	checkDeed(t, deed{i: ins(impl.OMark, 0), stack: "self | / 3 7 self |" + ones(54), then: "self | 4", more: and(frameAt(3, 3), failed(true), func(s *scene) { s.Deep = true })})
	checkDeed(t, deed{i: ins(impl.OTab, 0), stack: "self | / 3 7 self |", then: "self | 5",
		ahead: func(s *scene) { s.Serial = impl.MaxSerial },
		more:  and(frameAt(3, 3), failed(true), func(s *scene) { s.Short = true })})
	for i, text := range []string{"pcall(fn(x) { error(4); return 0; }, 1); pcall(fn(x) { error(5); return 0; }, 1);", "local f = nil; f = fn(n) { return f(n) + 1; }; pcall(f, 1);"} {
		m, _ := impl.RunMachine(booted(t, text, 400), impl.MaxFuel)
		if m.State != impl.MachDone || m.Deep != (i == 1) || m.Short {
			t.Error(text, m.State, m.Deep, m.Short)
		}
	}
}

// stops: the State is MachError with ErrType, and all else is as it is by then.
func stops(s *scene) { s.State, s.Error = impl.MachError, num(impl.ErrType) }

// wrongLinks are links of a frame with that base that are none.
func wrongLinks(base int) []string {
	list := []string{"2 6", "0 6", "-1 6", fmt.Sprint(base-2) + " 6", "1000 6", "3 -1", "3 -2", "3 8192", "3 8193", "3 9223372036854775807", "-9223372036854775808 6"}
	for _, v := range []string{"nil", "yes", "ab", "table", "self", "co", "lib:3", "box"} {
		list = append(list, v+" 6", "3 "+v, v+" "+v)
	}
	return list
}

func TestLinksThatAreNone(t *testing.T) {
	for _, links := range wrongLinks(6) {
		stack := "self | / " + links + " self | "
		checkDeeds(t,
			// The value is taken, and nothing else is done.
			deed{i: ins(impl.OReturn, 0), stack: stack + "4", then: stack, more: and(stops, frameAt(6, 1))},
			deed{i: ins(impl.OOp, impl.OpDiv), stack: stack + "7 1 0", then: stack + "7", more: and(stops, frameAt(6, 1))},
			deed{i: ins(impl.OCall, 0), stack: stack + "0 0 nil", then: stack + "0 0 nil", more: and(stops, frameAt(6, 1))},
		)
		// Below one that is not caught, but not below one that is.
		stack = "self | / " + links + " self | / 6 4 self | "
		checkDeed(t, deed{i: ins(impl.OOp, impl.OpDiv), stack: stack + "1 0", then: stack, more: and(stops, frameAt(9, 1))})
		stack = "self | / " + links + " self | / 6 5 self | "
		checkDeed(t, deed{i: ins(impl.OOp, impl.OpDiv), stack: stack + "1 0", then: "self | / " + links + " self | 2", more: and(frameAt(6, 2), failed(true))})
		stack = "self | / " + links + " self | / 6 4 self | "
		checkDeed(t, deed{i: ins(impl.OReturn, 0), stack: stack + "4", then: "self | / " + links + " self | 4", more: frameAt(6, 2)})
	}
	// A base that leaves no room for links of its own.
	for _, base := range []int{4, 5} {
		d := deed{i: ins(impl.OReturn, 0), stack: "self self self | 4", then: "self self self |", more: and(stops, frameAt(base, 1))}
		d.ahead = func(s *scene) {
			frameAt(base, 0)(s)
			s.Module.Protos[1].Slots = 0
		}
		checkDeed(t, d)
	}
}

// What Step wants of the coroutine that runs: else the State is MachError, and nothing is done.
func TestNoFrameToRun(t *testing.T) {
	check := func(name string, ahead func(s *scene)) {
		t.Helper()
		s := sceneOf(ins(impl.ONil, 0), "self 1 2 |")
		ahead(s)
		for _, s := range []*scene{s, s.flipped()} {
			if !impl.MachineOk(s.Machine) {
				t.Fatal(name, "is not right")
			}
			want := s.twin()
			stops(want)
			want.Steps++
			got, ok := impl.Step(s.Machine)
			if !ok || !sameMachine(got, want.Machine) {
				t.Errorf("%s: %v\n%s\nwant\n%s", name, ok, toldMachine(got), toldMachine(want.Machine))
			}
			checkDo(t, name, s.Machine)
			if got, state := impl.RunMachine(s.Machine, 9); state != impl.MachError || !sameMachine(got, want.Machine) {
				t.Error(name, "runs on", state)
			}
		}
	}
	for _, v := range without(someOfEach(), "co", "run") {
		check("the Root 0 is "+v, func(s *scene) { s.Roots[0] = s.val(v) })
	}
	for _, v := range without(someOfEach(), "self", "plain") {
		check("the function is "+v, func(s *scene) { s.lay("run.3=" + v) })
	}
	for base := range 6 {
		if base != 3 {
			check(fmt.Sprint("the base is ", base), func(s *scene) { s.Words[s.place("run")+3] = uint64(base) })
		}
	}
	for _, place := range []uint64{4, 5, 4000, 4095} {
		check(fmt.Sprint("the place is ", place), func(s *scene) { s.Words[s.place("run")+4] = place })
	}
	check("the top is below the slots", func(s *scene) { s.setStack("0 0 self 1") })
	check("the top is the base", func(s *scene) { s.setStack("0 0 self") })
	check("the function has more slots", func(s *scene) { s.Module.Protos[1].Slots = 3 })
	check("the coroutine is over", func(s *scene) { s.setStack(""); copy(s.Words[s.place("run")+1:], []uint64{3, 0, 0, 0}) })
	check("a fresh one", func(s *scene) { s.Roots[0] = s.val("co") })
	check("no Proto has that number", func(s *scene) { s.Words[s.place("self")+1] = 5 })
	check("a Proto less", func(s *scene) {
		s.Module.Protos = s.Module.Protos[:1]
		s.Module.Protos[0].Slots = 20
	})
	// The status is not asked for.
	for status := range uint64(5) {
		checkDeed(t, deed{i: ins(impl.ONil, 0), stack: "self 1 2 |", then: "self 1 2 | nil", ahead: func(s *scene) { s.Words[s.place("run")+1] = status }})
	}
}
