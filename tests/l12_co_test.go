package tests

import (
	"fmt"
	"testing"

	"loop.example/g00101/impl"
)

// coAt: the coroutine of that name has these words and this stack, and that one has resumed it.
func coAt(name string, words [4]int, back string, stack string) func(s *scene) {
	return func(s *scene) {
		s.setStackOf(name, stack)
		at := s.place(name)
		for i, w := range words {
			if i != 1 { // the top is as the stack is
				s.Words[at+1+i] = uint64(w)
			}
		}
		copy(s.Words[at+5:], pairs(s.val(back)))
	}
}

func runsNow(name string) func(s *scene) {
	return func(s *scene) { s.Roots[0] = s.val("*" + name) }
}

// resumes: the coroutine "co" is resumed; what is copied is the coroutine, then the value.
func resumes(args string, copies string, ahead func(s *scene), after func(s *scene)) deed {
	d := libFails(0, 9, args, copies)
	d.ahead = ahead
	d.then = "self 1 | 2"
	d.more = and(coAt("run", [4]int{4, 0, 3, 1}, "nil", "0 0 self 1 2"), after, runsNow("co"))
	return d
}

// Proto 3 has one of Params and three slots.
func TestResumeOfAFreshOne(t *testing.T) {
	begun := func(stack string) func(s *scene) { return coAt("co", [4]int{2, 0, 3, 0}, "*run", stack) }
	checkDeeds(t,
		resumes("co ab", "co ab", nil, begun("0 0 plain *ab nil nil")),
		resumes("co", "co", nil, begun("0 0 plain nil nil nil")),
		resumes("co 7 8 9", "co", nil, begun("0 0 plain 7 nil nil")),
		// Without Params the value is gone, though it was loaded; Proto 1 has one slot.
		resumes("co ab", "co ab", coAt("co", [4]int{0, 0, 3, 0}, "nil", "0 0 self"), begun("0 0 self nil")),
		// Whatever links it has, and whatever place: it begins at 0.
		resumes("co 5", "co", coAt("co", [4]int{0, 0, 3, 77}, "run", "ab -1 plain"), begun("ab -1 plain 5 nil nil")),
		resumes("co co", "co", nil, begun("0 0 plain *co nil nil")),
		resumes("co run", "co", nil, begun("0 0 plain *run nil nil")),
	)
	// What is no function with a Proto: the error is raised in it, which is over then; it goes to who waits.
	for _, v := range without(someOfEach(), "self", "plain") {
		checkDeed(t, resumes("co ab", "co ab", coAt("co", [4]int{0, 0, 3, 0}, "nil", "0 0 "+v), and(
			coAt("co", [4]int{3, 0, 0, 0}, "nil", ""), func(s *scene) {
				coAt("run", [4]int{3, 0, 0, 0}, "nil", "")(s)
				s.State, s.Error = impl.MachError, num(impl.ErrCall)
			})).endsIn("run"))
	}
}

// endsIn: that one is the last that ran.
func (d deed) endsIn(name string) deed {
	d.more = and(d.more, runsNow(name))
	return d
}

func TestResumeOfOneThatHasYielded(t *testing.T) {
	yielded := func(base int, stack string) func(s *scene) { return coAt("co", [4]int{1, 0, base, 9}, "nil", stack) }
	on := func(base int, stack string) func(s *scene) { return coAt("co", [4]int{2, 0, base, 9}, "*run", stack) }
	checkDeeds(t,
		resumes("co ab", "co ab", yielded(3, "0 0 plain 1 2 3"), on(3, "0 0 plain 1 2 3 *ab")),
		resumes("co", "co", yielded(3, "0 0 plain 1 2 3 4"), on(3, "0 0 plain 1 2 3 4 nil")),
		resumes("co 6", "co", yielded(7, "0 0 plain 1 3 2 self"), on(7, "0 0 plain 1 3 2 self 6")),
		// Its stack is not asked whether it is as frames must be: that comes with the next step.
		resumes("co 6", "co", yielded(3, "ab cd table"), on(3, "ab cd table 6")),
		resumes("co 6", "co", yielded(3, "0 0 plain"+ones(56)), on(3, "0 0 plain"+ones(56)+" 6")),
	)
	// A full stack: the error is raised in it.
	over := and(coAt("co", [4]int{3, 0, 0, 0}, "nil", ""), func(s *scene) {
		coAt("run", [4]int{3, 0, 0, 0}, "nil", "")(s)
		s.State, s.Error, s.Deep = impl.MachError, num(impl.ErrStack), true
	})
	checkDeed(t, resumes("co ab", "co ab", yielded(3, "0 0 plain"+ones(57)), over).endsIn("run"))
	// Where it has a frame that is caught, it goes on there.
	caught := and(coAt("co", [4]int{2, 0, 3, 4}, "*run", "0 0 plain 1 4"), failed(true), func(s *scene) { s.Deep = true })
	checkDeed(t, resumes("co ab", "co ab", yielded(7, "0 0 plain 1 3 9 self"+ones(53)), caught))
}

func TestResumeOfWhatIsDead(t *testing.T) {
	dead := func(ahead func(s *scene)) {
		t.Helper()
		for _, args := range []string{"co ab", "co"} {
			d := libFails(impl.ErrDead, 9, args, "") // nothing is loaded
			d.ahead = ahead
			checkDeed(t, d)
		}
	}
	for status := range 5 {
		if status > 1 {
			dead(coAt("co", [4]int{status, 0, 3, 0}, "nil", "0 0 plain"))
			dead(coAt("co", [4]int{status, 0, 3, 0}, "nil", "0 0 plain 1 2 3"))
		}
		dead(coAt("co", [4]int{status, 0, 2, 0}, "nil", "0 0 plain"))
		dead(coAt("co", [4]int{status, 0, 0, 0}, "nil", ""))
	}
	// Fresh, but not as it was made.
	dead(coAt("co", [4]int{0, 0, 3, 0}, "nil", "0 0 plain 1"))
	dead(coAt("co", [4]int{0, 0, 4, 0}, "nil", "0 0 plain 1"))
	// The one that runs, and one that waits for it.
	checkDeed(t, libFails(impl.ErrDead, 9, "run ab", ""))
	d := libFails(impl.ErrDead, 9, "co ab", "")
	d.ahead = and(coAt("co", [4]int{4, 0, 3, 0}, "nil", "0 0 plain 1 2 3"), func(s *scene) { s.lay("run.0=co") })
	d.copies = "co" // it is told of the error
	d.more = and(d.more, coAt("co", [4]int{3, 0, 0, 0}, "nil", ""), runsNow("co"))
	d.lays = "run.0=nil"
	checkDeed(t, d)
}

// A coroutine that runs, but does not say so, may resume itself: nothing rules it out.
func TestResumeOfOneself(t *testing.T) {
	d := deed{i: ins(impl.OCall, 2), stack: "self 1 | 2 0 0 lib:9 run ab", copies: "ab", then: "self 1 | 2 *ab", ahead: func(s *scene) { s.Words[s.place("run")+1] = 1 }}
	d.more = func(s *scene) {
		s.Words[s.place("run")+1] = 2
		s.lay("run.0=*run")
	}
	checkDeed(t, d)
	d = deed{i: ins(impl.OCall, 1), stack: "self 1 | 2 0 0 lib:10 ab", copies: "ab", then: "self 1 | 2 *ab", ahead: func(s *scene) { s.lay("run.0=run") }, lays: "run.0=nil"}
	checkDeed(t, d)
	d = deed{i: ins(impl.OReturn, 0), stack: "self 1 | ab", copies: "ab", then: "", ahead: func(s *scene) { s.lay("run.0=run") }}
	d.more = and(coAt("run", [4]int{2, 0, 0, 0}, "nil", ""), stops)
	checkDeed(t, d)
}

// waits: "co" has resumed the one that runs, and waits at 2 for it.
func waits(base int, stack string) func(s *scene) {
	return and(coAt("co", [4]int{4, 0, base, 2}, "nil", stack), func(s *scene) { s.lay("run.0=co") })
}

func wakes(base int, stack string) func(s *scene) {
	return and(coAt("co", [4]int{2, 0, base, 2}, "nil", stack), runsNow("co"))
}

// What is yielded is loaded, then who waits for it.
func TestYields(t *testing.T) {
	yield := func(args string, copies string, ahead func(s *scene), after func(s *scene)) deed {
		d := libFails(0, 10, args, copies)
		d.ahead = ahead
		d.more = and(coAt("run", [4]int{1, 0, 3, 1}, "nil", "0 0 self 1 2"), after)
		return d
	}
	checkDeeds(t,
		yield("ab", "ab co", waits(3, "0 0 plain 1 2 3"), wakes(3, "0 0 plain 1 2 3 *ab")),
		yield("", "co", waits(3, "0 0 plain 1 2 3"), wakes(3, "0 0 plain 1 2 3 nil")),
		yield("7 8", "co", waits(7, "0 0 plain 1 3 2 self"), wakes(7, "0 0 plain 1 3 2 self 7")),
		yield("run", "co", waits(3, "ab cd table"), wakes(3, "ab cd table *run")),
		// The status of who waits is not asked for.
		yield("7", "co", and(waits(3, "0 0 plain 1"), func(s *scene) { s.Words[s.place("co")+1] = 0 }), wakes(3, "0 0 plain 1 7")),
	)
	for base := range 3 {
		checkDeed(t, yield("ab", "ab co", waits(base, "0 0 plain 1"), and(coAt("co", [4]int{2, 0, base, 2}, "nil", "0 0 plain 1"), runsNow("co"), stops)))
	}
	// Nobody has resumed it.
	checkDeeds(t, libFails(impl.ErrDead, 10, "ab", ""), libFails(impl.ErrDead, 10, "", ""))
	// A full stack of who waits: the error is raised there.
	full := yield("ab", "ab co", waits(3, "0 0 plain"+ones(57)), and(coAt("co", [4]int{3, 0, 0, 0}, "nil", ""), runsNow("co"), func(s *scene) {
		s.State, s.Error, s.Deep = impl.MachError, num(impl.ErrStack), true
	}))
	checkDeed(t, full)
}

// over: the coroutine that runs is over, and nobody waits for it any more.
func over(s *scene) { coAt("run", [4]int{3, 0, 0, 0}, "nil", "")(s) }

func TestReturnsOfCoroutines(t *testing.T) {
	back := func(stack string, copies string, ahead func(s *scene), after func(s *scene)) deed {
		return deed{i: ins(impl.OReturn, 0), stack: stack, copies: copies, ahead: ahead, more: and(over, after)}
	}
	checkDeeds(t,
		back("self 1 | ab", "ab co", waits(3, "0 0 plain 1 2 3"), wakes(3, "0 0 plain 1 2 3 *ab")),
		back("self 1 | 9 nil", "co", waits(7, "0 0 plain 1 3 2 self"), wakes(7, "0 0 plain 1 3 2 self nil")),
		back("self 1 | co", "co", waits(3, "0 0 plain 1"), wakes(3, "0 0 plain 1 *co")),
	)
	for base := range 3 {
		checkDeed(t, back("self 1 | ab", "ab co", waits(base, "0 0 plain 1"), and(coAt("co", [4]int{2, 0, base, 2}, "nil", "0 0 plain 1"), runsNow("co"), stops)))
	}
	checkDeed(t, back("self 1 | ab", "ab co", waits(3, "0 0 plain"+ones(57)), and(coAt("co", [4]int{3, 0, 0, 0}, "nil", ""), runsNow("co"), func(s *scene) {
		s.State, s.Error, s.Deep = impl.MachError, num(impl.ErrStack), true
	})))
}

// An error that leaves a coroutine is raised in who has resumed it; Failed only where it is caught.
func TestErrorsThatLeaveACoroutine(t *testing.T) {
	raise := func(copies string, ahead func(s *scene), after func(s *scene)) deed {
		return deed{i: ins(impl.OCall, 1), stack: "self | / 3 4 self | 0 0 lib:6 ab", copies: copies, ahead: ahead, more: and(over, after)}
	}
	caught := and(coAt("co", [4]int{2, 0, 3, 4}, "nil", "0 0 plain 1 *ab"), runsNow("co"), failed(true))
	checkDeeds(t,
		raise("ab co", waits(7, "0 0 plain 1 3 9 self 5"), caught),
		// Frames of who waits that are not caught are gone, too.
		raise("ab co", waits(10, "0 0 plain 1 3 9 self 7 2 self"), caught),
		// By nobody: both are over, and who waited last is the one that ran.
		raise("ab co", waits(3, "0 0 plain 1 2 3"), and(coAt("co", [4]int{3, 0, 0, 0}, "nil", ""), runsNow("co"), func(s *scene) {
			s.State, s.Error = impl.MachError, impl.Val{Tag: impl.TStr}
		})),
		// In a circle: who waited is over already.
		raise("ab co", and(waits(3, "0 0 plain 1 2 3"), func(s *scene) { s.lay("co.0=run") }), and(
			coAt("co", [4]int{3, 0, 0, 0}, "nil", ""), func(s *scene) { coAt("run", [4]int{2, 0, 0, 0}, "nil", "")(s) }, stops)),
		raise("ab co", and(waits(3, "0 0 plain 1 2 3"), func(s *scene) { s.lay("co.0=co") }), and(
			coAt("co", [4]int{2, 0, 0, 0}, "nil", ""), runsNow("co"), stops)),
		// A link that is none in who waits.
		raise("ab co", waits(7, "0 0 plain 1 2 9 self 5"), and(coAt("co", [4]int{2, 0, 7, 2}, "nil", "0 0 plain 1 2 9 self 5"), runsNow("co"), stops)),
		raise("ab co", waits(7, "0 0 plain 1 3 ab self 5"), and(coAt("co", [4]int{2, 0, 7, 2}, "nil", "0 0 plain 1 3 ab self 5"), runsNow("co"), stops)),
	)
	for base := range 3 {
		checkDeed(t, raise("ab co", waits(base, "0 0 plain 1"), and(coAt("co", [4]int{2, 0, base, 2}, "nil", "0 0 plain 1"), runsNow("co"), stops)))
	}
}

// A chain of coroutines, each resumed by the one ahead: an error leaves them all, up to the one that catches it.
func TestErrorsLeaveManyCoroutines(t *testing.T) {
	text := `local f = fn(n) { if n == 0 { error("deep"); } return 0; };
local i = 0;
while i < %d { i = i + 1; local g = f; f = fn(n) { return resume(co(g), n - 1); }; }
print(pcall(f, %d)); print(failed());`
	for n := range 8 {
		m := booted(t, fmt.Sprintf(text, n, n), 2000)
		m, state := impl.RunMachine(m, impl.MaxFuel)
		if state != impl.MachDone || len(m.Out) != 2 || m.Out[0] != "deep" || m.Out[1] != "true" {
			t.Error(n, state, m.Error, m.Out)
		}
	}
}
