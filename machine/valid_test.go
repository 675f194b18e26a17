package machine_test

import (
	"math"
	"testing"

	"culprit/api"
	"culprit/machine"
)

// outcome sets the outcome alone.
func outcome(n int) change {
	return func(_ program, s *machine.State) { s.Outcome = n }
}

func where(name string) change {
	return func(_ program, s *machine.State) { s.Where = name }
}

func site(n int) change {
	return func(_ program, s *machine.State) { s.Site = n }
}

// pc sets the PC of the last frame of a thread.
func pc(t, n int) change {
	return func(_ program, s *machine.State) { lastFrame(s, t).PC = n }
}

// frame sets the frame i of a thread, at a label.
func frame(t, i int, label string, locals ...int) change {
	return func(p program, s *machine.State) {
		s.Threads[t].Frames[i] = machine.Frame{PC: p.thread(label).Frames[0].PC, Locals: locals}
	}
}

// thread sets a thread.
func thread(t int, x machine.Thread) change {
	return func(_ program, s *machine.State) { s.Threads[t] = x }
}

// threads makes the number of threads n, with ended ones.
func threads(n int) change {
	return func(_ program, s *machine.State) {
		for len(s.Threads) < n {
			s.Threads = append(s.Threads, machine.Thread{Ended: true})
		}
		s.Threads = s.Threads[:n]
	}
}

// TestValid: states that are valid or not by one part, if the run goes on (first) and if it is over (second).
func TestValid(t *testing.T) {
	p := assemble(`
		vars x=1 y=2; chans c=0 d=2; locks k l m; files f
		p 2:
		@p0 push 1
		@p1 get x
		@p2 recv c 1
		@p3 sleep 4
		@p4 back
		q 0:
		@q0 call p
		@q1 back
		t 1:
		@t0 get x
		@t1 call p
		@t2 send c
		@t3 end`)
	no := func(program, *machine.State) {}
	ended := machine.Thread{Ended: true}
	for _, c := range []struct {
		what       string
		change     change
		goesOn, is bool // whether it is valid, if the run goes on, and if it is over
	}{
		{"nothing", no, true, true},
		{"no variables", vars(), false, false},
		{"a variable less", vars(1), false, false},
		{"a variable more", vars(1, 2, 3), false, false},
		{"variables at the edges", vars(math.MinInt, math.MaxInt), true, true},
		{"no queues", queues(), false, false},
		{"a queue less", queues(nil), false, false},
		{"a queue more", queues(nil, nil, nil), false, false},
		{"a full queue", queues(nil, []int{-1, math.MaxInt}), true, true},
		{"a queue with too many values", queues(nil, []int{1, 2, 3}), false, false},
		{"a channel without a capacity that has a value", queues([]int{1}, nil), false, false},
		{"an owner less", owners(-1, -1), false, false},
		{"an owner more", owners(-1, -1, -1, -1), false, false},
		{"owners", owners(0, 1, -1), true, true},
		{"an owner that has ended", owners(2, 2, 2), true, true},
		{"an owner that there is not", owners(-1, 3, -1), false, false},
		{"an owner -2", owners(-1, -1, -2), false, false},
		{"no files", files(), false, false},
		{"a file more", files(1, 2), false, false},
		{"a file", files(math.MinInt), true, true},
		{"no threads", threads(0), false, false},
		{"one thread", threads(1), true, true},
		{"65 threads", threads(65), true, true},
		{"66 threads", threads(66), false, false},
		{"five that have not ended", all(starts("@p1", 0, 0), starts("@p1", 0, 0), starts("@p1", 0, 0)), true, true},
		{"five that have not ended, of 65", all(threads(62), starts("@p1", 0, 0), starts("@p1", 0, 0), starts("@p1", 0, 0)), true, true},
		{"six that have not ended", all(starts("@p1", 0, 0), starts("@p1", 0, 0), starts("@p1", 0, 0), starts("@p1", 0, 0)), false, false},
		{"no frames", thread(1, machine.Thread{}), false, false},
		{"eight frames", thread(1, p.thread("@q0 @q0 @q0 @q0 @q0 @q0 @q0 @p1")), true, true},
		{"nine frames", thread(1, p.thread("@q0 @q0 @q0 @q0 @q0 @q0 @q0 @q0 @p1")), false, false},
		{"16 values", stack(1, make([]int, 16)...), true, true},
		{"17 values", stack(1, make([]int, 17)...), false, false},
		{"values at the edges", stack(0, math.MinInt, math.MaxInt), true, true},
		{"Wake 0", wake(1, 0), true, true},
		{"Wake -1", wake(1, -1), false, false},
		{"the greatest Wake", wake(1, 1<<20), true, true},
		{"too great a Wake", wake(0, 1<<20+1), false, false},
		{"PC -1", pc(1, -1), false, false},
		{"the least PC", pc(1, math.MinInt), false, false},
		{"PC behind the end", pc(0, 11), false, false},
		{"the greatest PC", pc(0, math.MaxInt), false, false},
		{"the last PC", to(0, "@t3"), true, true},
		{"a silent instruction", to(1, "@p0"), false, true},
		{"a Call", to(0, "@t1"), false, true},
		{"a Back of the only frame", to(1, "@p4"), true, true},
		{"a Back of thread 0", frame(0, 0, "@q1"), true, true},
		{"a Back behind which there is a frame", thread(1, p.thread("@t0 @p4")), false, true},
		{"an End behind which there is a frame", thread(1, p.thread("@p4 @t3")), true, true},
		{"silent instructions of outer frames", thread(1, p.thread("@p0 @q0 @p1")), true, true},
		{"the PC of an outer frame", all(thread(1, p.thread("@p0 @q0 @p1")), func(_ program, s *machine.State) { s.Threads[1].Frames[0].PC = 99 }), false, false},
		{"a local less", frame(1, 0, "@p1", 1), false, false},
		{"a local more", frame(1, 0, "@p1", 1, 2, 3), false, false},
		{"the locals of another procedure", frame(0, 0, "@p1", 1), false, false},
		{"no locals", frame(0, 0, "@t0"), false, false},
		{"locals at the edges", frame(1, 0, "@p1", math.MinInt, math.MaxInt), true, true},
		{"locals of the last instruction of a procedure", frame(1, 0, "@p4", 1, 2), true, true},
		{"locals of the first instruction of one", frame(1, 0, "@q0", 1, 2), false, false},
		{"locals of an outer frame", all(thread(1, p.thread("@q0 @p1")), frame(1, 0, "@q0", 1)), false, false},
		{"an ended one with a frame", thread(2, machine.Thread{Ended: true, Frames: []machine.Frame{{PC: 1, Locals: []int{0, 0}}}}), false, false},
		{"an ended one with a value", thread(2, machine.Thread{Ended: true, Stack: []int{0}}), false, false},
		{"an ended one with Wake", thread(2, machine.Thread{Ended: true, Wake: 1}), false, false},
		{"an ended one with Wake -1", thread(2, machine.Thread{Ended: true, Wake: -1}), false, false},
		{"an ended one with empty lists", thread(2, machine.Thread{Ended: true, Frames: []machine.Frame{}, Stack: []int{}}), true, true},
		{"Clock -1", clock(-1), false, false},
		{"the greatest Clock", clock(1 << 20), true, true},
		{"too great a Clock", clock(1<<20 + 1), false, false},
		{"Fuel 0", fuel(0), false, true},
		{"Fuel 1", fuel(1), true, true},
		{"Fuel 65", fuel(65), false, false},
		{"Fuel -1", fuel(-1), false, false},
		{"many steps", steps(math.MaxInt), true, true},
		{"Steps -1", steps(-1), false, false},
		{"many units", allocs(math.MaxInt), true, true},
		{"Allocs -1", allocs(-1), false, false},
		{"many waits", waits(math.MaxInt), true, true},
		{"Waits -1", waits(math.MinInt), false, false},
		{"Site 1", site(1), false, true},
		{"Site -1", site(-1), false, false},
		{"the greatest Site", site(math.MaxInt), false, true},
		{"Where", where("t"), false, true},
		{"Where that there is not", where("no such\x00name"), false, true},
		{"thread 0 has ended", thread(0, ended), false, true},
		{"all threads have ended", all(thread(0, ended), thread(1, ended)), false, true},
		{"nobody is enabled", all(to(1, "@p2"), thread(0, p.thread("@p2"))), false, true},
		{"one is enabled", to(1, "@p2"), true, true},
		{"all sleep", all(thread(0, p.thread("@p3")), wake(0, 1), to(1, "@p3"), wake(1, 9)), false, true},
		{"one wakes", all(thread(0, p.thread("@p3")), wake(0, 9), to(1, "@p3"), wake(1, 9), clock(9)), true, true},
		{"thread 0 is picked", picked(0), true, false},
		{"thread 1 is picked", picked(1), true, false},
		{"the only one is picked", all(to(1, "@p2"), picked(0)), true, false},
		{"one that is not enabled is picked", all(to(1, "@p2"), picked(1)), false, false},
		{"one that has ended is picked", picked(2), false, false},
		{"one that there is not is picked", picked(3), false, false},
		{"-2 is picked", picked(-2), false, false},
		{"the least one is picked", picked(math.MinInt), false, false},
		{"the greatest one is picked", picked(math.MaxInt), false, false},
		{"an outcome -2", outcome(-2), false, false},
		{"an outcome 5", outcome(5), false, false},
		{"the least outcome", outcome(math.MinInt), false, false},
		{"the greatest outcome", outcome(math.MaxInt), false, false},
	} {
		for end := -1; end < api.Outcomes; end++ {
			s := p.states("@t0,@p1,")
			s.Outcome = end
			c.change(p, &s)
			want := api.ErrArg
			if end < 0 && c.goesOn || end >= 0 && c.is {
				want = api.OK
			}
			before := show(s)
			if got := machine.Valid(p.Code, s); got != want {
				t.Errorf("P9.5: Valid with the outcome %d, %s: %v; want %v", end, c.what, got, want)
			}
			if show(s) != before {
				t.Errorf("P9.5: Valid, %s: the state has changed", c.what)
			}
			checkUsable(t, c.what, p, s, want)
		}
	}
}

// checkUsable examines whether the other functions take a state that is valid, and no other one.
func checkUsable(t *testing.T, what string, p program, s machine.State, valid api.Errno) {
	t.Helper()
	want := valid
	if valid == api.OK && s.Outcome >= 0 {
		want = api.ErrState
	}
	if _, e := machine.Next(p.Code, api.Env{}, s); e != want {
		t.Errorf("P9.2: Next, %s: %v; want %v", what, e, want)
	}
	if _, _, e := machine.Do(p.Code, api.Env{}, s, 0); e != want {
		t.Errorf("P9.3: Do, %s: %v; want %v", what, e, want)
	}
	if l := machine.Enabled(p.Code, s); (len(l) > 0) != (want == api.OK) {
		t.Errorf("P9.4: Enabled, %s: %v", what, l)
	}
	if l := machine.Left(p.Code, s); len(l) != 3 && valid == api.OK || len(l) != 0 && valid != api.OK {
		t.Errorf("P9.4: Left, %s: %v", what, l)
	}
}

// TestValidOther: states of other codes, and the first and the last valid ones of a code without anything.
func TestValidOther(t *testing.T) {
	p, q := assemble("vars x; t 0:; @ end"), assemble("t 0:; @ end")
	if e := machine.Valid(p.Code, q.states("@")); e != api.ErrArg {
		t.Errorf("P9.5: Valid of the state of another code: %v", e)
	}
	if e := machine.Valid(q.Code, p.states("@")); e != api.ErrArg {
		t.Errorf("P9.5: Valid of the state of another code: %v", e)
	}
	if e := machine.Valid(q.Code, q.states("@")); e != api.OK {
		t.Errorf("P9.5: Valid of the least state: %v", e)
	}
	// Many threads and long lists cost no time beyond looking at them.
	s := q.states("@")
	s.Threads = make([]machine.Thread, 1<<20)
	s.Vars = make([]int, 1<<20)
	if e := machine.Valid(q.Code, s); e != api.ErrArg {
		t.Errorf("P9.5: Valid of a large state: %v", e)
	}
}
