package machine_test

import (
	"math"
	"slices"
	"strings"
	"testing"

	"culprit/api"
	"culprit/code"
	"culprit/machine"
)

// A stepCase is a state, and what an alternative makes of it.
type stepCase struct {
	what, text string // the program
	at         string // the labels at which the threads stand; the one at "@" (its last frame) makes the step
	env        api.Env
	k          int
	before     change // of the state ahead of the step
	accesses   string
	after      change // of this state, when Clock, Steps and Fuel have changed, and Picked is -1
}

// run plays a case, and compares.
func (c stepCase) run(t *testing.T) {
	t.Helper()
	p := assemble(c.text)
	s := p.states(c.at)
	if c.before != nil {
		c.before(p, &s)
	}
	if len(machine.Enabled(p.Code, s)) > 1 {
		s.Picked = slices.IndexFunc(strings.Split(c.at, ","), func(l string) bool { return strings.HasSuffix(" "+l, " @") })
	}
	want := copyState(s)
	want.Clock++
	want.Fuel--
	want.Cost.Steps++
	want.Picked = -1
	c.after(p, &want)
	before, codeBefore := show(s), copyCode(p.Code)
	got, l, e := machine.Do(p.Code, c.env, s, c.k)
	if e != api.OK || show(got) != show(want) {
		t.Errorf("P9.3: Do, %s: %v\n%s; want\n%s", c.what, e, show(got), show(want))
	}
	if showAccesses(l) != c.accesses {
		t.Errorf("P9.3: Do, %s: the accesses %s; want %s", c.what, showAccesses(l), c.accesses)
	}
	if show(s) != before || !code.Same(codeBefore, p.Code) {
		t.Errorf("P9.3: Do, %s: an argument has changed", c.what)
	}
}

// TestPick: a thread is picked, and nothing else happens.
func TestPick(t *testing.T) {
	p := assemble("vars x=1; locks l; t 1:; @get get x; @acquire acquire l; @sleep sleep 2; @end end")
	s := p.states("@acquire,@get,,@end,@sleep,@get")
	all(owners(2), wake(4, 9), clock(8), fuel(1), stack(1, 3), waits(4))(p, &s)
	for k, thread := range []int{1, 3, 5} {
		want := copyState(s)
		want.Picked = thread
		got, l, e := machine.Do(p.Code, api.Env{Fault: 8, Skew: 8}, s, k)
		if e != api.OK || show(got) != show(want) || len(l) != 0 {
			t.Errorf("P9.3: Do of %d: %v %v\n%s; want\n%s", k, e, l, show(got), show(want))
		}
	}
	for _, k := range []int{-1, 3, 5} {
		if got, l, e := machine.Do(p.Code, api.Env{}, s, k); e != api.ErrRange || show(got) != show(machine.State{}) || len(l) != 0 {
			t.Errorf("P9.3: Do of %d: %v %v %s", k, e, l, show(got))
		}
	}
}

// TestMemory: variables, files, draws and the clock.
func TestMemory(t *testing.T) {
	const head = "vars x=4 y=-5; files f g; t 3:; "
	for _, c := range []stepCase{
		{what: "Get", text: "@ get y; @to end", before: stack(0, 8), accesses: "var1 threads1!", after: stack(0, 8, -5)},
		{what: "Get on a stack of 15", text: "@ get x; @to end", before: stack(0, make([]int, 15)...), accesses: "var0 threads1!", after: stack(0, append(make([]int, 15), 4)...)},
		{what: "Put", text: "@ put y; @to end", before: stack(0, 8, 9), accesses: "var1! threads1!", after: all(stack(0, 8), vars(4, 9))},
		{what: "Put of the same value", text: "@ put x; @to end", before: stack(0, 4), accesses: "var0! threads1!", after: stack(0)},
		{what: "Write", text: "@ write g; @to end", before: all(stack(0, 8, 9), files(1, 2)), accesses: "file1! threads1!", after: all(stack(0, 8), files(1, 9))},
		{what: "Write that is not lost", text: "@ write g; @to end", env: api.Env{Fault: 1}, before: all(stack(0, 8, 9), files(1, 2)), accesses: "file1! threads1!", after: all(stack(0, 8), files(1, 9))},
		{what: "Write that is lost", text: "@ write g; @to end", env: api.Env{Fault: 1}, k: 1, before: all(stack(0, 8, 9), files(1, 2)), accesses: "file1! threads1!", after: stack(0, 8)},
		{what: "Read", text: "@ read g 2; @to end", env: api.Env{Fault: 8}, before: all(stack(0, 8), files(1, 2)), accesses: "file1 threads1!", after: local(0, 2, 2)},
		{what: "Draw of the first one", text: "@ draw 3 1; @to end", before: local(0, 1, 7), accesses: "threads1!", after: local(0, 1, 0)},
		{what: "Draw of the second one", text: "@ draw 3 1; @to end", env: api.Env{Skew: 2, Fault: 2}, k: 1, accesses: "threads1!", after: local(0, 1, 1)},
		{what: "Draw of the last one", text: "@ draw 6 2; @to end", k: 5, accesses: "threads1!", after: local(0, 2, 5)},
		{what: "Now", text: "@ now 1; @to end", before: clock(20), accesses: "clock0 threads1!", after: local(0, 1, 20)},
		{what: "Now without a jump", text: "@ now 1; @to end", env: api.Env{Skew: 1}, before: clock(20), accesses: "clock0 threads1!", after: local(0, 1, 20)},
		{what: "Now with a jump", text: "@ now 1; @to end", env: api.Env{Skew: 1}, k: 1, before: clock(20), accesses: "clock0! threads1!", after: all(local(0, 1, 21), clock(22))},
		{what: "Sleep", text: "@ sleep 9; @to end", before: all(clock(20), wake(0, 20)), accesses: "clock0 threads1!", after: all()},
		{what: "Sleep of one that is late", text: "@ sleep 9; @to end", before: all(clock(20), wake(0, 4)), accesses: "clock0 threads1!", after: all()},
	} {
		c.text, c.at, c.after = head+c.text, "@", all(to(0, "@to"), c.after)
		c.run(t)
	}
}

// TestEnd: of thread 0, and of others, by Back and by End.
func TestEnd(t *testing.T) {
	const ends = "vars x; locks l; p 1:; @p get x; @b back; t 0:; @e get x; @ end"
	const back = "vars x; locks l; p 1:; @p get x; @ back; t 0:; @e get x; @f end"
	passed := over(api.Passed, "", 0)
	for _, c := range []stepCase{
		{what: "the End of thread 0", text: ends, at: "@", before: all(stack(0, 1, 2), wake(0, 5), owners(0)), accesses: "threads0! threads1!", after: all(ended(0), passed)},
		{what: "the End of thread 0, as others go on", text: ends, at: "@,@p", accesses: "threads0! threads1!", after: all(ended(0), passed)},
		{what: "the End of thread 0 with the last fuel", text: ends, at: "@,@p", before: fuel(1), accesses: "threads0! threads1!", after: all(ended(0), passed)},
		{what: "the Back of thread 0", text: back, at: "@,@f", accesses: "threads0! threads1!", after: all(ended(0), passed)},
		{what: "the Back of another one", text: back, at: "@e,@", before: all(stack(1, 1, 2), wake(1, 5), owners(1), local(1, 0, 3)), accesses: "threads0! threads2!", after: ended(1)},
		{what: "the End of another one", text: ends, at: "@e,@", accesses: "threads0! threads2!", after: ended(1)},
		{what: "an End ahead of other frames", text: ends, at: "@e,@p @p @", accesses: "threads0! threads2!", after: ended(1)},
		{what: "an End of thread 0 ahead of other frames", text: ends, at: "@p @", accesses: "threads0! threads1!", after: all(ended(0), passed)},
		{what: "that of the last but one", text: back, at: "@e,,@,", accesses: "threads0! threads3!", after: ended(2)},
	} {
		c.run(t)
	}
}

// TestGo: threads that are started, and how many there can be.
func TestGo(t *testing.T) {
	const head = "vars x; chans c=0 d=1; locks l; p 2:; push 3; @p get x; back; q 0:; @q back; r 0:; @r acquire l; back; v 1:; @v recv c 0; back; "
	for _, c := range []stepCase{
		{what: "a thread with silent instructions", text: "@ go p; push 4; @to get x; end", at: "@", accesses: "threads0! threads1! threads2!", after: all(to(0, "@to"), stack(0, 4), starts("@p", 0, 0), stack(1, 3))},
		{what: "a thread of one instruction", text: "@ go q; @to get x; end", at: "@", accesses: "threads0! threads1! threads2!", after: all(to(0, "@to"), starts("@q"))},
		{what: "one that stands at once at an Acquire of a free lock", text: "@ go r; @to get x; end", at: "@", accesses: "lock0 threads0! threads1! threads2!", after: all(to(0, "@to"), starts("@r"))},
		{what: "one that stands at once at an Acquire", text: "@ go r; @to get x; end", at: "@", before: owners(0), accesses: "lock0 threads0! threads1! threads2!", after: all(to(0, "@to"), starts("@r"), waits(1))},
		{what: "one that stands at once at a Recv", text: "@ go v; @to get x; end", at: "@", accesses: "chan0! threads0! threads1! threads2!", after: all(to(0, "@to"), starts("@v", 0))},
		{what: "the test itself", text: "@ go t; @to get x; end", at: "@", before: local(0, 0, 4), accesses: "threads0! threads1! threads2!", after: all(to(0, "@to"), starts("@", 0))},
		{what: "a fifth one", text: "@ go q; @to get x; end", at: "@,@p,@q,@p", accesses: "threads0! threads1! threads5!", after: all(to(0, "@to"), starts("@q"))},
		{what: "a fifth one, by another one, when others have ended", text: "@ go q; @to get x; end", at: "@p,,@q,,@,@p", accesses: "threads0! threads5! threads7!", after: all(to(4, "@to"), starts("@q"))},
		{what: "the 66th one, when most have ended", text: "@ go q; @to get x; end", at: "@", before: threads(65), accesses: "threads0! threads1! threads66!", after: all(to(0, "@to"), starts("@q"))},
		{what: "a sixth one", text: "@ go q; @to get x; end", at: "@,@p,@q,@p,@p", accesses: "threads0! threads1!", after: all(still, over(api.Broken, "t", 0))},
		{what: "a sixth one by another one, when others have ended", text: "get x; @ go q; @to get x; end", at: "@p,,@p,@q,@p,@", accesses: "threads0! threads6!", after: all(still, over(api.Broken, "t", 1))},
	} {
		c.text = head + "t 1:; " + c.text
		c.run(t)
	}
}

// TestSend: values that go into queues, and to other threads.
func TestSend(t *testing.T) {
	const head = "vars x; chans a=0 c=0 d=2; p 3:; @r recv c 1; @r2 get x; @s recv c 2; push 7; @s2 get x; @a recv a 0; @d recv d 0; push 8; @d2 get x; @g get x; @again recv c 0; @again2 recv c 1; back; t 2:; "
	for _, c := range []stepCase{
		{what: "into an empty queue", text: "@ send d; @to end", at: "@", before: stack(0, 1, 2), accesses: "chan2! threads1!", after: all(stack(0, 1), queues(nil, nil, []int{2}))},
		{what: "into a queue", text: "@ send d; @to end", at: "@", before: all(stack(0, 1, 2), queues(nil, nil, []int{5})), accesses: "chan2! threads1!", after: all(stack(0, 1), queues(nil, nil, []int{5, 2}))},
		{what: "into a queue from which others receive", text: "@ send d; @to end", at: "@,@d,@d", before: stack(0, 2), accesses: "chan2! threads1!", after: all(stack(0), queues(nil, nil, []int{2}))},
		{what: "to the only one", text: "@ send c; @to end", at: "@,@a,@r,@d", before: stack(0, 1, 2), accesses: "chan1! threads1! threads3!", after: all(stack(0, 1), to(2, "@r2"), local(2, 1, 2))},
		{what: "to the only one, which is ahead", text: "@ send c; @to end", at: "@g,@s,@", before: stack(2, 2), accesses: "chan1! threads2! threads3!", after: all(stack(2), to(1, "@s2"), stack(1, 7), local(1, 2, 2))},
		{what: "to the first one", text: "@ send c; @to end", at: "@g,@r,,@,@s,@r", before: stack(3, 2), accesses: "chan1! threads2! threads4!", after: all(stack(3), to(1, "@r2"), local(1, 1, 2))},
		{what: "to the second one", text: "@ send c; @to end", at: "@g,@r,,@,@s,@r", k: 1, before: stack(3, 2), accesses: "chan1! threads4! threads5!", after: all(stack(3), to(4, "@s2"), stack(4, 7), local(4, 2, 2))},
		{what: "to the third one", text: "@ send c; @to end", at: "@g,@r,,@,@s,@r", k: 2, before: stack(3, 2), accesses: "chan1! threads4! threads6!", after: all(stack(3), to(5, "@r2"), local(5, 1, 2))},
		{what: "to one that receives again", text: "@ send c; @to end", at: "@,@again", before: stack(0, 2), accesses: "chan1! threads1! threads2!", after: all(stack(0), to(1, "@again2"), local(1, 0, 2))},
		{what: "ahead of a Recv of its own", text: "@ send c; @to recv c 0; end", at: "@,@r", before: stack(0, 2), accesses: "chan1! threads1! threads2!", after: all(stack(0), to(1, "@r2"), local(1, 1, 2))},
		{what: "ahead of a Recv of its own, to several", text: "@ send c; @to recv c 0; end", at: "@,@r,@s", k: 1, before: stack(0, 2), accesses: "chan1! threads1! threads3!", after: all(stack(0), to(2, "@s2"), stack(2, 7), local(2, 2, 2))},
		{what: "to one that runs in a procedure", text: "@ send c; @to end", at: "@,@g @r", before: stack(0, 2), accesses: "chan1! threads1! threads2!", after: all(stack(0), to(1, "@r2"), local(1, 1, 2))},
	} {
		at := slices.Index(strings.Split(c.at, ","), "@")
		c.text, c.after = head+c.text, all(to(at, "@to"), c.after)
		c.run(t)
	}
}

// TestRecv: the first value of a queue.
func TestRecv(t *testing.T) {
	const text = "vars x; chans c=0 d=3; p 1:; @g get x; back; t 2:; @ recv d 1; @to end"
	for _, c := range []stepCase{
		{what: "the only one", before: queues(nil, []int{5}), after: all(local(0, 1, 5), queues(nil, nil))},
		{what: "the first one", before: all(stack(0, 1), queues(nil, []int{5, 6, 7})), after: all(local(0, 1, 5), queues(nil, []int{6, 7}))},
	} {
		c.text, c.at, c.accesses, c.after = text, "@,@g", "chan1! threads1!", all(to(0, "@to"), c.after)
		c.run(t)
	}
}

func TestLocks(t *testing.T) {
	const head = "vars x; locks l m; p 1:; @g get x; @w acquire m; back; t 2:; "
	for _, c := range []stepCase{
		{what: "Acquire", text: "@ acquire m; @to end", at: "@g,@", before: owners(0, -1), accesses: "lock1! threads2!", after: all(to(1, "@to"), owners(0, 1))},
		{what: "Acquire, as others wait", text: "@ acquire m; @to end", at: "@w,@,@w", accesses: "lock1! threads2!", after: all(to(1, "@to"), owners(-1, 1))},
		{what: "Acquire of the one that it has", text: "@ acquire m; @to acquire m; end", at: "@g,@", accesses: "lock1! threads2!", after: all(to(1, "@to"), owners(-1, 1), waits(1))},
		{what: "Release", text: "@ release m; @to end", at: "@g,@", before: owners(1, 1), accesses: "lock1! threads2!", after: all(to(1, "@to"), owners(1, -1))},
		{what: "Release, as others wait", text: "@ release m; @to end", at: "@w,@,@w", before: all(owners(1, 1), waits(2)), accesses: "lock1! threads2!", after: all(to(1, "@to"), owners(1, -1))},
		{what: "Release ahead of an Acquire", text: "@ release m; @to acquire m; end", at: "@g,@", before: owners(1, 1), accesses: "lock1! threads2!", after: all(to(1, "@to"), owners(1, -1))},
		{what: "Release of a free lock", text: "get x; @ release m; @to end", at: "@g,@", before: owners(1, -1), accesses: "lock1! threads2!", after: all(still, over(api.Broken, "t", 1))},
		{what: "Release of the lock of another one", text: "@ release m; @to end", at: "@g,@", before: owners(1, 0), accesses: "lock1! threads2!", after: all(still, over(api.Broken, "t", 0))},
	} {
		c.text = head + c.text
		c.run(t)
	}
}

// TestBrokenSteps: a step that cannot be done changes nothing but the outcome.
func TestBrokenSteps(t *testing.T) {
	const head = "vars x y; chans c=0 d=1; files f g; p 1:; @r recv c 0; @g get x; back; q 2:; get x; "
	const tail = "; @to back; t 0:; @t end"
	broken := func(site int) change { return all(still, over(api.Broken, "q", site)) }
	full := make([]int, 16)
	for _, c := range []stepCase{
		{what: "Get on a full stack", text: "@ get y", before: stack(1, full...), accesses: "var1 threads2!"},
		{what: "Put of nothing", text: "@ put y", accesses: "var1! threads2!"},
		{what: "Write of nothing", text: "@ write g", accesses: "file1! threads2!"},
		{what: "Write of nothing that is lost", text: "@ write g", env: api.Env{Fault: 4}, k: 1, accesses: "file1! threads2!"},
		{what: "Send of nothing into a queue", text: "@ send d", accesses: "chan1! threads2!"},
		{what: "Send of nothing to a thread", text: "@ send c", at: "@t,@,@r", accesses: "chan0! threads2!"},
		{what: "Send of nothing to one of several", text: "@ send c", at: "@t,@,@r,@r", k: 1, accesses: "chan0! threads2!"},
	} {
		c.text = head + c.text + tail
		if c.at == "" {
			c.at = "@t,@"
		}
		before := c.before
		c.before = func(p program, s *machine.State) {
			all(clock(7), fuel(1), steps(30), allocs(4), waits(5))(p, s)
			if before != nil {
				before(p, s)
			}
		}
		c.after = broken(1)
		c.run(t)
	}
}

// TestArrivals: what a thread does that comes to stand at an instruction, and the accesses of this.
func TestArrivals(t *testing.T) {
	const head = "vars x=1; chans c=0 d=2; locks l m; files f; p 2:; @g get x; @r recv c 0; sleep 3; @b back; q 1:; push 2; @q sleep 4; back; "
	for _, c := range []stepCase{
		{what: "a Sleep", text: "@ put x; push 3; @to sleep 6; end", at: "@,@g", before: all(stack(0, 1), clock(10)), accesses: "var0! clock0 threads1!", after: all(to(0, "@to"), stack(0, 3), wake(0, 17))},
		{what: "a Sleep behind a jump", text: "@ now 0; @to sleep 6; end", at: "@,@g", env: api.Env{Skew: 4}, k: 1, before: clock(10), accesses: "clock0! threads1!", after: all(to(0, "@to"), local(0, 0, 11), clock(12), wake(0, 18))},
		{what: "a Sleep behind a Sleep", text: "@ sleep 1; @to sleep 6; end", at: "@,@g", before: all(clock(10), wake(0, 9)), accesses: "clock0 threads1!", after: all(to(0, "@to"), wake(0, 17))},
		{what: "an Acquire of a free lock", text: "@ put x; @to acquire m; end", at: "@,@g", before: all(stack(0, 1), owners(0, -1)), accesses: "var0! lock1 threads1!", after: all(to(0, "@to"), stack(0))},
		{what: "an Acquire of the lock of another one", text: "@ put x; @to acquire m; end", at: "@,@g", before: all(stack(0, 1), owners(-1, 1), waits(4)), accesses: "var0! lock1 threads1!", after: all(to(0, "@to"), stack(0), waits(5))},
		{what: "an Acquire of another lock than that of the step", text: "@ acquire l; @to acquire m; end", at: "@,@g", before: owners(-1, 1), accesses: "lock0! lock1 threads1!", after: all(to(0, "@to"), owners(0, 1), waits(1))},
		{what: "a Recv of a channel without a capacity", text: "@ put x; @to recv c 0; end", at: "@,@g", before: stack(0, 1), accesses: "var0! chan0! threads1!", after: all(to(0, "@to"), stack(0))},
		{what: "a Recv of one with a capacity", text: "@ put x; @to recv d 0; end", at: "@,@g", before: stack(0, 1), accesses: "var0! threads1!", after: all(to(0, "@to"), stack(0))},
		{what: "a Send", text: "@ put x; @to send c; end", at: "@,@g", before: stack(0, 1), accesses: "var0! threads1!", after: all(to(0, "@to"), stack(0))},
		{what: "another instruction", text: "@ put x; @to write f; end", at: "@,@g", before: stack(0, 1), accesses: "var0! threads1!", after: all(to(0, "@to"), stack(0))},
		{what: "behind a Call", text: "@ put x; @to call q; end", at: "@,@g", before: stack(0, 1), accesses: "var0! clock0 threads1!", after: func(p program, s *machine.State) {
			lastFrame(s, 0).PC = p.at["@to"] + 1
			all(stack(0, 2), calls(0, "@q", 0), wake(0, 5))(p, s)
		}},
		{what: "the receiver first, then the own one", text: "@ send c; @to acquire l; end", at: "@,@r", before: all(stack(0, 9), owners(0, -1), clock(10)), accesses: "chan0! lock0 clock0 threads1! threads2!",
			after: func(p program, s *machine.State) {
				lastFrame(s, 1).PC = p.at["@r"] + 1
				all(stack(0), to(0, "@to"), local(1, 0, 9), wake(1, 14), waits(1), clock(14))(p, s) // as nobody is enabled
			}},
		{what: "the new one first, then the own one", text: "@ go q; @to recv c 0; end", at: "@,@g", accesses: "chan0! clock0 threads0! threads1! threads3!", after: all(to(0, "@to"), starts("@q", 0), stack(2, 2), wake(2, 5))},
		{what: "the end of another one does not move those that wait", text: "@ put x; @to acquire l; end", at: "@,@b", before: all(stack(0, 1), owners(1, -1)), accesses: "var0! lock0 threads1!", after: all(to(0, "@to"), stack(0), waits(1))},
	} {
		c.text = head + "t 2:; " + c.text
		c.run(t)
	}
}

// TestWrap: numbers of valid states that no run has wrap around, and the clock goes on.
func TestWrap(t *testing.T) {
	const most = math.MaxInt
	stepCase{
		what: "the greatest numbers", text: "vars x=1; locks l; t 0:; @ get x; alloc 1; @to acquire l; end", at: "@,@",
		before:   all(steps(most), allocs(most), waits(most), clock(1<<20), owners(1)),
		accesses: "var0 lock0 threads1!",
		after:    all(to(0, "@to"), stack(0, 1), allocs(math.MinInt), waits(math.MinInt)),
	}.run(t)
	stepCase{
		what: "the last time", text: "vars x=1; t 1:; @ now 0; @to sleep 9; end", at: "@", env: api.Env{Skew: 8}, k: 1,
		before: clock(1 << 20), accesses: "clock0! threads1!", after: all(to(0, "@to"), local(0, 0, 1<<20+1), wake(0, 1<<20+11), clock(1<<20+11)),
	}.run(t)
}

// TestOverBehindSteps: runs that are over while threads run silently; those whose turn it is not any more stay.
func TestOverBehindSteps(t *testing.T) {
	const head = "vars x=1; chans c=0; locks l; p 2:; @fail push 0; check 3 p; @stay sleep 2; back; q 1:; @r recv c 0; load 0; check 1 q; @r2 sleep 2; back; u 1:; @add add; back; v 0:; @loop jump @loop; back; @g get x; back; "
	for _, c := range []stepCase{
		{what: "a check of the thread fails", text: "@ put x; push 0; check 5 t; @to acquire l; end", at: "@,@g", before: all(stack(0, 3, 1), owners(1)), accesses: "var0! threads1!", after: all(to(0, "@to"), stack(0, 3), over(api.Failed, "t", 5))},
		{what: "a check ahead of a Sleep fails", text: "@ put x; push 0; check 5 t; @to sleep 2; end", at: "@,@g", before: stack(0, 3, 1), accesses: "var0! threads1!", after: all(to(0, "@to"), stack(0, 3), over(api.Failed, "t", 5))},
		{what: "a check with the last fuel fails", text: "@ put x; push 0; check 5 t; @to get x; end", at: "@,@g", before: all(stack(0, 1), fuel(1)), accesses: "var0! threads1!", after: all(to(0, "@to"), stack(0), over(api.Failed, "t", 5))},
		{what: "a check of the new one fails", text: "@ go p; @to acquire l; end", at: "@,@g", before: owners(1), accesses: "threads0! threads1! threads3!", after: all(to(0, "@to"), starts("@stay", 0, 0), over(api.Failed, "p", 3))},
		{what: "a check of the own one fails behind the new one", text: "@ go u; push 0; check 2 t; @to acquire l; end", at: "@,@g", before: owners(1), accesses: "threads0! threads1! threads3!", after: func(p program, s *machine.State) {
			all(starts("@add", 0), over(api.Broken, "u", 0))(p, s)
			lastFrame(s, 0).PC = p.at["@"] + 1
		}},
		{what: "a check of the receiver fails", text: "@ send c; @to acquire l; end", at: "@,@r", before: all(stack(0, 0), owners(1)), accesses: "chan0! threads1! threads2!", after: all(to(0, "@to"), stack(0), to(1, "@r2"), over(api.Failed, "q", 1))},
		{what: "a check of the own one fails behind the receiver", text: "@ send c; check 2 t; @to acquire l; end", at: "@,@r", before: all(stack(0, 0, 1), owners(1)), accesses: "chan0! clock0 threads1! threads2!", after: all(to(0, "@to"), stack(0), to(1, "@r2"), local(1, 0, 1), wake(1, 3), over(api.Failed, "t", 2))},
		{what: "the new one runs on and on", text: "@ go v; @to acquire l; end", at: "@,@g", before: owners(1), accesses: "threads0! threads1! threads3!", after: all(to(0, "@to"), starts("@loop"), over(api.Late, "v", 0))},
	} {
		c.text = head + "t 2:; " + c.text
		c.run(t)
	}
}

// TestSettled: how a run is over, or the clock goes on, when nobody can.
func TestSettled(t *testing.T) {
	const head = "vars x=1; chans c=0; locks l m; p 1:; @g get x; @s sleep 5; @r recv c 0; @b back; t 2:; get x; "
	for _, c := range []stepCase{
		{what: "no fuel", text: "@ put x; @to get x; end", at: "@,@g", before: all(stack(0, 1), fuel(1)), accesses: "var0! threads1!", after: all(stack(0), over(api.Late, "t", 2))},
		{what: "no fuel, and nobody is enabled", text: "@ put x; @to recv c 0; end", at: "@", before: all(stack(0, 1), fuel(1)), accesses: "var0! chan0! threads1!", after: all(stack(0), over(api.Late, "t", 2))},
		{what: "no fuel, and somebody sleeps", text: "@ put x; @to recv c 0; end", at: "@,@s", before: all(stack(0, 1), fuel(1), wake(1, 30)), accesses: "var0! chan0! threads1!", after: all(stack(0), over(api.Late, "t", 2))},
		{what: "no fuel, and thread 0 is in a procedure", text: "@ put x; @to get x; end", at: "@to @r,@", before: all(stack(1, 1), fuel(1)), accesses: "var0! threads2!", after: all(stack(1), over(api.Late, "p", 2))},
		{what: "the last but one fuel", text: "@ put x; @to get x; end", at: "@,@g", before: all(stack(0, 1), fuel(2)), accesses: "var0! threads1!", after: stack(0)},
		{what: "nobody is enabled", text: "@ put x; @to acquire l; end", at: "@,@r,", before: all(stack(0, 1), owners(2, -1)), accesses: "var0! lock0 threads1!", after: all(stack(0), waits(1), over(api.Stuck, "t", 2))},
		{what: "nobody is enabled, and thread 0 is in a procedure", text: "@ put x; @to acquire l; end", at: "@to @r,@", before: all(stack(1, 1), owners(1, -1)), accesses: "var0! lock0 threads2!", after: all(stack(1), waits(1), over(api.Stuck, "p", 2))},
		{what: "another one has ended, and nobody is enabled", text: "@ end; @to acquire l; end", at: "@r,@", accesses: "threads0! threads2!", after: all(ended(1), over(api.Stuck, "p", 2))},
		{what: "one sleeps", text: "@ put x; @to acquire l; end", at: "@,@s", before: all(stack(0, 1), owners(1, -1), clock(10), wake(1, 15)), accesses: "var0! lock0 threads1!", after: all(stack(0), waits(1), clock(15))},
		{what: "several sleep", text: "@ put x; @to acquire l; end", at: "@,@s,@s,@r,@s", before: all(stack(0, 1), owners(1, -1), clock(10), wake(1, 16), wake(2, 14), wake(3, 12), wake(4, 15)), accesses: "var0! lock0 threads1!", after: all(stack(0), waits(1), clock(14))},
		{what: "the own one sleeps least", text: "@ put x; @to sleep 2; end", at: "@,@s", before: all(stack(0, 1), clock(10), wake(1, 14)), accesses: "var0! clock0 threads1!", after: all(stack(0), wake(0, 13), clock(13))},
		{what: "one that sleeps may go on", text: "@ put x; @to acquire l; end", at: "@,@s,@s", before: all(stack(0, 1), owners(1, -1), clock(10), wake(1, 11), wake(2, 20)), accesses: "var0! lock0 threads1!", after: all(stack(0), waits(1))},
		{what: "one sleeps, and another one may go on", text: "@ put x; @to get x; end", at: "@,@s", before: all(stack(0, 1), clock(10), wake(1, 20)), accesses: "var0! threads1!", after: stack(0)},
	} {
		c.text = head + c.text
		at := slices.Index(strings.Split(c.at, ","), "@")
		c.after = all(to(at, "@to"), c.after)
		c.run(t)
	}
}
