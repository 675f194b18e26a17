package machine_test

import (
	"math"
	"slices"
	"strconv"
	"strings"
	"testing"

	"culprit/api"
	"culprit/machine"
)

// TestOperations: each operation of two values, at the edges, too.
func TestOperations(t *testing.T) {
	const low, high = math.MinInt, math.MaxInt
	numbers := []int{0, 1, -1, 2, -2, 7, 999, -999, 1 << 31, 1<<32 - 1, 1 << 32, -1 << 33, low, low + 1, high - 1, high}
	is := map[bool]int{true: 1}
	for _, a := range numbers {
		for _, b := range numbers {
			for word, want := range map[string]int{"add": a + b, "sub": a - b, "mul": a * b, "less": is[a < b], "most": is[a <= b], "equal": is[a == b]} {
				checkStack(t, "push 5; push "+strconv.Itoa(a)+"; push "+strconv.Itoa(b)+"; "+word, 5, want)
			}
		}
	}
	// What wraps around, and which operand is which, written out.
	checkStack(t, "push 9223372036854775807; push 1; add", -9223372036854775808)
	checkStack(t, "push -9223372036854775808; push 1; sub", 9223372036854775807)
	checkStack(t, "push 4611686018427387905; push 6; mul", -9223372036854775802)
	checkStack(t, "push -9223372036854775808; push -1; mul", -9223372036854775808)
	checkStack(t, "push -9223372036854775808; push 9223372036854775807; less", 1)
	checkStack(t, "push 3; push 4; less", 1)
	checkStack(t, "push 4; push 3; less", 0)
	checkStack(t, "push 7; push 3; sub", 4)
}

// checkStack examines the stack of thread 0 behind some instructions.
func checkStack(t *testing.T, text string, want ...int) {
	t.Helper()
	p := assemble("vars x; t 4:; " + text + "; get x; end")
	s, e := machine.Start(p.Code, api.Env{Kind: 2}, nil)
	if e != api.OK || s.Outcome != -1 || !slices.Equal(s.Threads[0].Stack, want) {
		t.Errorf("P9.1: %s: %v %s; want the stack %v", text, e, show(s), want)
	}
}

// TestSilent: all other silent instructions, behind a step.
func TestSilent(t *testing.T) {
	const head = "vars x=1; p 2:; load 1; store 0; push 4; store 1; @p get x; back; t 3:; "
	for _, c := range []stepCase{
		{what: "nothing", text: "@ sleep 1; @to get x; end", before: all(stack(0, 3), local(0, 1, 4)), after: all()},
		{what: "Push", text: "@ sleep 1; push -7; @to get x; end", after: stack(0, -7)},
		{what: "Load", text: "@ sleep 1; load 2; @to get x; end", before: local(0, 2, 6), after: stack(0, 6)},
		{what: "Store", text: "@ sleep 1; store 2; @to get x; end", before: all(stack(0, 3, 4), local(0, 2, 7)), after: all(stack(0, 3), local(0, 2, 4))},
		{what: "Machine", text: "@ sleep 1; machine; @to get x; end", env: api.Env{Kind: 3}, after: stack(0, 3)},
		{what: "Machine of the kind 0", text: "@ sleep 1; machine; @to get x; end", env: api.Env{Fault: 1, Skew: 2}, after: stack(0, 0)},
		{what: "Jump ahead", text: "@ sleep 1; jump @to; push 9; @to get x; end", after: all()},
		{what: "Jump back", text: "@to get x; @ sleep 1; jump @to; end", after: all()},
		{what: "Zero of 0", text: "@ sleep 1; zero @to; push 9; @to get x; end", before: stack(0, 3, 0), after: stack(0, 3)},
		{what: "Zero of 1", text: "get x; @ sleep 1; zero @; @to get x; end", before: stack(0, 3, 1), after: stack(0, 3)},
		{what: "Zero of -1", text: "get x; @ sleep 1; zero @; @to get x; end", before: stack(0, 3, -1), after: stack(0, 3)},
		{what: "Zero of the least number", text: "@ sleep 1; zero @; @to get x; end", before: stack(0, 3, math.MinInt), after: stack(0, 3)},
		{what: "Check of 1", text: "@ sleep 1; check 0 t; @to get x; end", before: stack(0, 3, 1), after: stack(0, 3)},
		{what: "Check of -1", text: "@ sleep 1; check 0 t; @to get x; end", before: stack(0, 3, -1), after: stack(0, 3)},
		{what: "Check of 0", text: "@ sleep 1; check 6 t; @to get x; end", before: stack(0, 3, 0), after: all(stack(0, 3), over(api.Failed, "t", 6))},
		{what: "Check of 0 with the greatest number", text: "@ sleep 1; check 9223372036854775807 t; @to push 1; end", before: stack(0, 0), after: all(stack(0), over(api.Failed, "t", math.MaxInt))},
		{what: "Alloc", text: "@ sleep 1; alloc 99; alloc 1; @to get x; end", before: allocs(50), after: allocs(150)},
		{what: "Call", text: "@ sleep 1; call p; @to get x; end", before: all(stack(0, 3), local(0, 0, 9)), after: all(to(0, "@to"), calls(0, "@p", 0, 4))},
		{what: "Call of the test itself", text: "@ sleep 1; call t; @to get x; end", before: local(0, 0, 9), after: all(to(0, "@to"), calls(0, "@", 0, 0, 0), wake(0, 2), clock(2))},
	} {
		c.text, c.at, c.accesses, c.after = head+c.text, "@", "clock0 threads1!", all(to(0, "@to"), c.after)
		c.run(t)
	}
}

// TestCalls: frames that come and go, with what the outer ones keep.
func TestCalls(t *testing.T) {
	const text = "vars x=1; locks l; p 1:; @ sleep 1; push 2; back; q 2:; @q call p; push 3; back; q2 0:; @b back; t 1:; call q; @to get x; push 4; @end end"
	for _, c := range []stepCase{
		{what: "a Back", at: "@to @", before: all(stack(0, 7), local(0, 0, 5)), after: all(returns(0), stack(0, 7, 2))},
		{what: "two of them", at: "@to @q @", before: func(p program, s *machine.State) {
			s.Threads[0].Frames[0].Locals = []int{6}
			s.Threads[0].Frames[1] = machine.Frame{PC: p.at["@q"] + 1, Locals: []int{1, 2}}
		}, after: all(returns(0), returns(0), stack(0, 2, 3))},
		{what: "a Back ahead of a Call", at: "@to @q @", before: local(0, 0, 9), after: all(local(0, 0, 0), func(p program, s *machine.State) {
			s.Threads[0].Frames[1].PC++
			s.Threads[0].Stack = []int{2}
			s.Threads[0].Wake, s.Clock = 2, 2
		})},
		{what: "a Back behind which there is the only one", at: "@end,@b @", after: func(p program, s *machine.State) {
			returns(1)(p, s)
			s.Threads[1].Stack = []int{2}
		}},
	} {
		c.text, c.accesses = text, "clock0 threads1!"
		if strings.Contains(c.at, ",") {
			c.accesses = "clock0 threads2!"
		}
		c.run(t)
	}
}

// TestSilentBroken: what cannot be done among silent instructions. Nothing of it is done; the step ahead of it stays done.
func TestSilentBroken(t *testing.T) {
	const head = "vars x=1; p 2:; push 4; @in alloc 2; back; t 3:; get x; "
	full := []int{0, 1, 2, 3, 4, 5, 6, 7, 8, 9, 10, 11, 12, 13, 14, 15}
	calls8 := strings.TrimSpace(strings.Repeat("@in ", 7)) + " @"
	for _, c := range []stepCase{
		{what: "Store of nothing", text: "@to store 1"},
		{what: "Zero of nothing", text: "@to zero @"},
		{what: "Check of nothing", text: "@to check 2 t"},
		{what: "Add of nothing", text: "@to add"},
		{what: "Add of one value", text: "@to add", before: stack(0, 7)},
		{what: "Sub of one value", text: "@to sub", before: stack(0, 7)},
		{what: "Mul of one value", text: "@to mul", before: stack(0, 7)},
		{what: "Less of one value", text: "@to less", before: stack(0, 7)},
		{what: "Most of one value", text: "@to most", before: stack(0, 7)},
		{what: "Equal of one value", text: "@to equal", before: stack(0, 7)},
		{what: "Push on a full stack", text: "@to push 1", before: stack(0, full...)},
		{what: "Load on a full stack", text: "@to load 1", before: stack(0, full...)},
		{what: "Machine on a full stack", text: "@to machine", before: stack(0, full...)},
		{what: "a ninth frame", text: "@to call p", at: calls8},
	} {
		c.text = head + "@ sleep 1; alloc 5; " + c.text + "; get x; end"
		if c.at == "" {
			c.at = "@"
		}
		c.accesses, c.after = "clock0 threads1!", all(to(0, "@to"), allocs(5), over(api.Broken, "t", 3))
		c.run(t)
	}
	for _, c := range []stepCase{
		{what: "a push on 15 values", text: "push 9; @to get x; end", before: stack(0, full[:15]...), after: stack(0, append(slices.Clone(full[:15]), 9)...)},
		{what: "Add on a full stack", text: "add; @to get x; end", before: stack(0, full...), after: stack(0, append(slices.Clone(full[:14]), 29)...)},
		{what: "Check on a full stack", text: "check 0 t; @to get x; end", before: stack(0, full...), after: stack(0, full[:15]...)},
		{what: "an eighth frame", text: "call q; @to get x; end", at: strings.TrimPrefix(calls8, "@in "), after: calls(0, "@q")},
	} {
		c.text = "vars x=1; p 2:; push 4; @in alloc 2; back; q 0:; @q get x; back; t 3:; @ sleep 1; " + c.text
		if c.at == "" {
			c.at = "@"
		}
		c.accesses, c.after = "clock0 threads1!", all(to(0, "@to"), c.after)
		c.run(t)
	}
}

// TestSilentBrokenInProcedure: the place is that in the procedure.
func TestSilentBrokenInProcedure(t *testing.T) {
	p := assemble("vars x; p 0:; push 1; push 2; @bad add; @bad2 add; back; t 0:; call p; @to get x; end")
	s, e := machine.Start(p.Code, api.Env{}, nil)
	want := p.states("@to @bad2")
	all(stack(0, 3), over(api.Broken, "p", 3))(p, &want)
	if e != api.OK || show(s) != show(want) {
		t.Errorf("P9.1: %v\n%s; want\n%s", e, show(s), show(want))
	}
}

// TestMaxSilent: at most 64 silent instructions stand between two visible ones.
func TestMaxSilent(t *testing.T) {
	for _, c := range []struct {
		what, text string // ahead of "@to"
		n          int    // how often there is an Alloc of 1 in it
		tail       string
		allocs     int
		over       change
	}{
		{"63", "", 63, "@to get x", 63, nil},
		{"64", "", 64, "@to get x", 64, nil},
		{"65", "", 64, "@to alloc 1; get x", 64, over(api.Late, "t", 65)},
		{"66", "", 64, "@to alloc 1; alloc 1; get x", 64, over(api.Late, "t", 65)},
		{"64 that end with a Check that fails", "push 0; ", 62, "check 4 t; @to push 1; get x", 62, over(api.Failed, "t", 4)},
		{"65 that end with a Check that fails", "push 0; ", 63, "@to check 4 t; get x", 63, over(api.Late, "t", 65)},
		{"64 that end with one that cannot be done", "", 63, "@to add; get x", 63, over(api.Broken, "t", 64)},
		{"65 that end with one that cannot be done", "", 64, "@to add; get x", 64, over(api.Late, "t", 65)},
	} {
		text := "vars x=1; t 3:; @ sleep 1; " + c.text + strings.Repeat("alloc 1; ", c.n) + c.tail + "; end"
		step := stepCase{what: c.what + " silent ones", text: text, at: "@", accesses: "clock0 threads1!"}
		step.after = func(p program, s *machine.State) {
			all(to(0, "@to"), allocs(c.allocs))(p, s)
			if strings.HasPrefix(c.what, "65 that end with a Check") {
				s.Threads[0].Stack = []int{0}
			}
			if c.over != nil {
				c.over(p, s)
			}
		}
		step.run(t)
	}
}

// TestMaxSilentEach: each of the threads that a step moves has 64 silent instructions, and the count goes on in procedures.
func TestMaxSilentEach(t *testing.T) {
	const long = "alloc 1; alloc 1; alloc 1; alloc 1; alloc 1; alloc 1; alloc 1; alloc 1; "
	sixtyFour := strings.Repeat(long, 8)
	stepCase{
		what: "a new thread and the own one", text: "vars x; p 0:; " + sixtyFour + "@p get x; back; t 0:; @ go p; " + sixtyFour + "@to get x; end", at: "@",
		accesses: "threads0! threads1! threads2!", after: all(to(0, "@to"), starts("@p"), allocs(128)),
	}.run(t)
	stepCase{
		what: "in a procedure", text: "vars x; p 0:; " + strings.Repeat(long, 7) + "@p alloc 1; alloc 1; @p2 back; t 0:; @ sleep 1; alloc 1; alloc 1; alloc 1; alloc 1; alloc 1; call p; @to alloc 1; get x; end", at: "@",
		accesses: "clock0 threads1!", after: all(to(0, "@to"), calls(0, "@p2"), allocs(63), over(api.Late, "p", 58)),
	}.run(t)
	stepCase{
		what: "a Call as the 64th one", text: "vars x; p 0:; @p get x; back; t 0:; @ sleep 1; " + strings.TrimSuffix(sixtyFour, "alloc 1; ") + "call p; @to get x; end", at: "@",
		accesses: "clock0 threads1!", after: all(to(0, "@to"), calls(0, "@p"), allocs(63)),
	}.run(t)
}
