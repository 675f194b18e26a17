package machine_test

import (
	"math"
	"slices"
	"testing"

	"culprit/api"
	"culprit/code"
	"culprit/machine"
)

// TestConstants: the numbers of the kinds of points and of objects.
func TestConstants(t *testing.T) {
	for i, n := range []int{machine.Pick, machine.Draws, machine.Deliver, machine.Jumps, machine.Loses, machine.Points} {
		if n != i {
			t.Errorf("the kind of points %d has the number %d", i, n)
		}
	}
	for i, n := range []int{machine.OnVar, machine.OnChan, machine.OnLock, machine.OnFile, machine.OnClock, machine.OnThreads, machine.Objects} {
		if n != i {
			t.Errorf("the kind of objects %d has the number %d", i, n)
		}
	}
}

// environments has proper ones at the edges, and ones that are not proper.
func environments() (proper, others []api.Env) {
	for _, n := range []int{0, 1, 3} {
		proper = append(proper, api.Env{Kind: n}, api.Env{Fault: n}, api.Env{Skew: n})
	}
	proper = append(proper, api.Env{Fault: 8}, api.Env{Skew: 8}, api.Env{Kind: 3, Fault: 8, Skew: 8})
	for _, n := range []int{-1, 9, 16, math.MinInt, math.MaxInt} {
		others = append(others, api.Env{Kind: n}, api.Env{Fault: n}, api.Env{Skew: n})
	}
	return proper, append(others, api.Env{Kind: 4}, api.Env{Kind: 8})
}

// invalidCodes has a code for each error of code.Valid.
func invalidCodes() map[api.Errno]code.Code {
	return map[api.Errno]code.Code{
		api.ErrLimit: {Instrs: make([]api.Instr, 513)},
		api.ErrArg:   {},
		api.ErrForm:  {Instrs: []api.Instr{{Op: code.Back}}, Begins: []int{0}, Locals: []int{0}, Names: []string{"t"}},
	}
}

func TestStart(t *testing.T) {
	const things = "vars a=-3 b=0 g.x=7; chans c=0 d=3; locks l m; files f g; p 1:; back; t 3:; "
	for _, c := range []struct {
		what, text string
		left       []api.Cell
		env        api.Env
		change     change // of the state in which thread 0 stands at "@", and nothing has happened
	}{
		{what: "at a visible instruction", text: "@ get a; end"},
		{what: "at the only instruction", text: "@ end"},
		{what: "behind silent ones", text: "push 5; store 1; push 6; @ get a; end", change: all(stack(0, 6), local(0, 1, 5))},
		{what: "with units", text: "alloc 99; alloc 1; @ get a; end", change: allocs(100)},
		{what: "the kind of the machine", text: "machine; @ get a; end", env: api.Env{Kind: 3}, change: stack(0, 3)},
		{what: "values that are left", text: "@ get a; end", left: []api.Cell{{Name: "g", N: 4}, {Name: "b", N: 9}, {Name: "g.x", N: math.MinInt}, {Name: "z", N: 1}}, change: all(vars(-3, 9, math.MinInt), files(0, 4))},
		{what: "values that are left twice", text: "@ get a; end", left: []api.Cell{{Name: "f", N: 1}, {Name: "a", N: 2}, {Name: "f", N: 3}, {Name: "a", N: 4}}, change: all(vars(2, 0, 7), files(1, 0))},
		{what: "the first one that is left is 0", text: "@ get a; end", left: []api.Cell{{Name: "a"}, {Name: "a", N: 4}}, change: vars(0, 0, 7)},
		{what: "names of other things", text: "@ get a; end", left: []api.Cell{{Name: "c", N: 1}, {Name: "l", N: 1}, {Name: "p", N: 1}, {Name: "t", N: 1}, {Name: "", N: 1}, {Name: "x", N: 1}, {Name: "g.", N: 1}, {Name: "A", N: 1}}},
		{what: "a lock is free", text: "@ acquire l; end"},
		{what: "at a Sleep", text: "@ sleep 9; end", change: all(wake(0, 9), clock(9))},
		{what: "nobody sends", text: "@ recv c 0; end", change: over(api.Stuck, "t", 0)},
		{what: "the queue is empty", text: "push 1; @ recv d 0; end", change: all(stack(0, 1), over(api.Stuck, "t", 1))},
		{what: "nobody receives", text: "@ send c; end", change: over(api.Stuck, "t", 0)},
		{what: "what cannot be done is a step", text: "@ release l; end"},
		{what: "a check fails", text: "push 0; check 7 t; @ sleep 3; end", change: over(api.Failed, "t", 7)},
		{what: "no value", text: "push 1; @ add; end", change: all(stack(0, 1), over(api.Broken, "t", 1))},
		{what: "no end", text: "@ jump @; end", change: over(api.Late, "t", 0)},
	} {
		p := assemble(things + c.text)
		want := p.states("@")
		if c.change != nil {
			c.change(p, &want)
		}
		before, left := copyCode(p.Code), slices.Clone(c.left)
		s, e := machine.Start(p.Code, c.env, c.left)
		if e != api.OK || show(s) != show(want) {
			t.Errorf("P9.1: Start, %s: %v\n%s; want\n%s", c.what, e, show(s), show(want))
		}
		if !code.Same(before, p.Code) || !slices.Equal(left, c.left) {
			t.Errorf("P9.1: Start, %s: an argument has changed", c.what)
		}
	}
}

// TestStartSameNames: a variable and a file with the same name find the same value.
func TestStartSameNames(t *testing.T) {
	p := assemble("vars a=1 b=2; files a c; t 0:; end")
	s, e := machine.Start(p.Code, api.Env{}, []api.Cell{{Name: "a", N: 8}, {Name: "a", N: 9}})
	if e != api.OK || s.Vars[0] != 8 || s.Files[0] != 8 || s.Vars[1] != 2 || s.Files[1] != 0 {
		t.Errorf("P9.1: Start: %v %v %v", e, s.Vars, s.Files)
	}
	want := []api.Cell{{Name: "a", N: -8}, {Name: "a", N: 8}, {Name: "b", N: 2}, {Name: "c"}}
	s.Vars[0] = -8
	if got := machine.Left(p.Code, s); !slices.Equal(got, want) {
		t.Errorf("P9.4: Left: %v; want %v", got, want)
	}
}

func TestStartErrors(t *testing.T) {
	p := assemble("t 0:; end")
	proper, others := environments()
	for _, n := range []int{0, 1, 63, 64, 65, 66, 1000} {
		left := make([]api.Cell, n)
		for _, e := range proper {
			want := api.OK
			if n > 64 {
				want = api.ErrLimit
			}
			checkStart(t, p.Code, e, left, want)
		}
		for _, e := range others {
			checkStart(t, p.Code, e, left, api.ErrArg)
		}
		for want, c := range invalidCodes() {
			checkStart(t, c, proper[0], left, want)
			checkStart(t, c, others[0], left, want)
		}
	}
}

func checkStart(t *testing.T, c code.Code, e api.Env, left []api.Cell, want api.Errno) {
	t.Helper()
	s, f := machine.Start(c, e, left)
	if f != want || f != api.OK && show(s) != show(machine.State{}) {
		t.Errorf("P9.1: Start in %v with %d cells: %v %s; want %v", e, len(left), f, show(s), want)
	}
}

// TestErrors: those of Next and Do, in their order, and what Enabled, Left and Valid do with the same arguments.
func TestErrors(t *testing.T) {
	p := assemble("vars x=1; t 1:; @ draw 3 0; end")
	valid := p.state(p.thread("@"))
	ended := copyState(valid)
	ended.Outcome = api.Stuck
	invalid := copyState(valid)
	invalid.Vars = nil
	endedInvalid := copyState(invalid)
	endedInvalid.Outcome = api.Stuck
	proper, others := environments()
	for _, k := range []int{-1, 0, 2, 3, math.MinInt, math.MaxInt} {
		rangeError := api.OK
		if k < 0 || k > 2 {
			rangeError = api.ErrRange
		}
		for i, e := range append(proper, others...) {
			next, do := api.OK, rangeError
			stateError := api.ErrState
			if i >= len(proper) {
				next, do, stateError = api.ErrArg, api.ErrArg, api.ErrArg
			}
			checkErrors(t, p.Code, e, valid, k, next, do)
			checkErrors(t, p.Code, e, ended, k, stateError, stateError)
			checkErrors(t, p.Code, e, invalid, k, api.ErrArg, api.ErrArg)
			checkErrors(t, p.Code, e, endedInvalid, k, api.ErrArg, api.ErrArg)
			for want, c := range invalidCodes() {
				for _, s := range []machine.State{valid, ended, invalid, {}} {
					checkErrors(t, c, e, s, k, want, want)
				}
			}
		}
	}
	checkNothing(t, p.Code, invalid, api.ErrArg)
	checkNothing(t, p.Code, endedInvalid, api.ErrArg)
	checkNothing(t, p.Code, machine.State{}, api.ErrArg)
	for want, c := range invalidCodes() {
		checkNothing(t, c, valid, want)
		checkNothing(t, c, machine.State{}, want)
	}
	if l := machine.Enabled(p.Code, ended); len(l) != 0 || machine.Valid(p.Code, ended) != api.OK {
		t.Errorf("P9.4: Enabled, when the run is over: %v", l)
	}
	if l := machine.Left(p.Code, ended); !slices.Equal(l, []api.Cell{{Name: "x", N: 1}}) {
		t.Errorf("P9.4: Left, when the run is over: %v", l)
	}
}

func checkErrors(t *testing.T, c code.Code, e api.Env, s machine.State, k int, next, do api.Errno) {
	t.Helper()
	if p, f := machine.Next(c, e, s); f != next || f != api.OK && (p.Kind != 0 || p.Thread != 0 || p.PC != 0 || len(p.Parts) != 0) {
		t.Errorf("P9.2: Next in %v of %s: %v %v; want %v", e, show(s), p, f, next)
	}
	if after, l, f := machine.Do(c, e, s, k); f != do || f != api.OK && (show(after) != show(machine.State{}) || len(l) != 0) {
		t.Errorf("P9.3: Do of %d in %v of %s: %s %v %v; want %v", k, e, show(s), show(after), l, f, do)
	}
}

// checkNothing examines the functions that return nothing for a state that is not valid.
func checkNothing(t *testing.T, c code.Code, s machine.State, want api.Errno) {
	t.Helper()
	if e := machine.Valid(c, s); e != want {
		t.Errorf("P9.5: Valid of %s: %v; want %v", show(s), e, want)
	}
	if l := machine.Enabled(c, s); len(l) != 0 {
		t.Errorf("P9.4: Enabled of %s, which is not valid: %v", show(s), l)
	}
	if l := machine.Left(c, s); len(l) != 0 {
		t.Errorf("P9.4: Left of %s, which is not valid: %v", show(s), l)
	}
}

func TestLeft(t *testing.T) {
	p := assemble("vars a=1 b=3 b.c=2 z=4; files a0 b.b ba zz; t 0:; @ end")
	s := p.state(p.thread("@"))
	s.Files = []int{-1, -2, -3, -4}
	want := []api.Cell{{Name: "a", N: 1}, {Name: "a0", N: -1}, {Name: "b", N: 3}, {Name: "b.b", N: -2}, {Name: "b.c", N: 2}, {Name: "ba", N: -3}, {Name: "z", N: 4}, {Name: "zz", N: -4}}
	if got := machine.Left(p.Code, s); !slices.Equal(got, want) {
		t.Errorf("P9.4: Left: %v; want %v", got, want)
	}
	q := assemble("t 0:; @ end")
	if got := machine.Left(q.Code, q.state(q.thread("@"))); len(got) != 0 {
		t.Errorf("P9.4: Left of nothing: %v", got)
	}
}

// TestEnabled: which instructions allow a step.
func TestEnabled(t *testing.T) {
	p := assemble(`
		vars x; chans c=0 d=1 e=3; locks l m; files f
		p 1:
		@rc recv c 0
		@rd recv d 0
		@re recv e 0
		@sc send c
		@sd send d
		@se send e
		@al acquire l
		@am acquire m
		@rl release l
		@sl sleep 3
		@go go p
		@get get x
		@put put x
		@draw draw 2 0
		@now now 0
		@write write f
		@read read f 0
		@back back
		t 0:
		@end end`)
	for _, c := range []struct {
		what, at string // labels, of thread 0 and the others
		change   change
		want     []int
	}{
		{"always", "@go,@get,@put,@rl,@draw", nil, []int{0, 1, 2, 3, 4}},
		{"always", "@now,@write,@read,@back,@end", nil, []int{0, 1, 2, 3, 4}},
		{"locks", "@al,@am,@al,@end", owners(1, -1), []int{1, 3}},
		{"locks of their own and of ended threads", "@al,@am,@end,", owners(0, 3), []int{2}},
		{"queues that are empty", "@rd,@re,@sd,@se", nil, []int{2, 3}},
		{"queues that are full", "@rd,@re,@sd,@se", queues(nil, []int{1}, []int{1, 2, 3}), []int{0, 1}},
		{"queues that are not full", "@rd,@re,@sd,@se", queues(nil, []int{1}, []int{1, 2}), []int{0, 1, 3}},
		{"one sends and one receives", "@sc,@rc", nil, []int{0}},
		{"one receives and several send", "@sc,@rc,@sc", nil, []int{0, 2}},
		{"nobody receives", "@sc,@sc,@sd", nil, []int{2}},
		{"nobody sends", "@rc,@rc,@end", nil, []int{2}},
		{"they receive from another channel", "@sc,@rd,@re,@end", nil, []int{3}},
		{"only an outer frame receives", "@sc,@rc @end", nil, []int{1}},
		{"sleeping", "@sl,@sl,@sl,@sl", all(clock(5), wake(0, 6), wake(1, 5), wake(2, 4), wake(3, 1<<20)), []int{1, 2}},
		{"others do not wake", "@get,@end", wake(0, 9), []int{0, 1}},
		{"ended ones", "@end,,@get,", nil, []int{0, 2}},
		{"one is picked", "@end,@get,@al", picked(2), []int{0, 1, 2}},
	} {
		s := p.states(c.at)
		if c.change != nil {
			c.change(p, &s)
		}
		if e := machine.Valid(p.Code, s); e != api.OK {
			t.Fatal(c.what, e)
		}
		if got := machine.Enabled(p.Code, s); !slices.Equal(got, c.want) {
			t.Errorf("P9.4: Enabled, %s (%s): %v; want %v", c.what, c.at, got, c.want)
		}
	}
}

// TestNext: the points of all instructions.
func TestNext(t *testing.T) {
	p := assemble(`
		vars x; chans c=0 d=2 e=0; locks l; files f
		p 2:
		@rc recv c 1
		@rd recv d 0
		@re recv e 0
		@sc send c
		@sd send d
		@se send e
		@al acquire l
		@rl release l
		@sl sleep 3
		@go go p
		@get get x
		@put put x
		@draw2 draw 2 0
		@draw6 draw 6 0
		@now now 0
		@write write f
		@read read f 0
		@call call p
		@back back
		t 0:
		@end end`)
	wide := api.Env{Kind: 1, Fault: 8, Skew: 8}
	for _, c := range []struct {
		what, at     string
		env          api.Env
		picked       int
		kind, thread int
		pc           string // the label
		parts        []int
	}{
		{"several", "@get,@end", wide, -1, machine.Pick, -1, "", []int{1, 1}},
		{"several of more", "@draw2,@rc,@now,,@write", wide, -1, machine.Pick, -1, "", []int{1, 1, 1}},
		{"five", "@draw2,@draw6,@now,@read,@write", wide, -1, machine.Pick, -1, "", []int{1, 1, 1, 1, 1}},
		{"the first one is picked", "@get,@end", wide, 0, machine.Pick, 0, "@get", []int{1}},
		{"the second one is picked", "@get,@end", wide, 1, machine.Pick, 1, "@end", []int{1}},
		{"the only one is picked", "@rc,@end", wide, 1, machine.Pick, 1, "@end", []int{1}},
		{"the only one", "@rc,@get", wide, -1, machine.Pick, 1, "@get", []int{1}},
		{"Draw of 2", "@draw2", api.Env{}, -1, machine.Draws, 0, "@draw2", []int{1, 1}},
		{"Draw of 6", "@draw6,@draw2", wide, 0, machine.Draws, 0, "@draw6", []int{1, 1, 1, 1, 1, 1}},
		{"Send to one", "@rc,@sc", wide, -1, machine.Pick, 1, "@sc", []int{1}},
		{"Send to one of another channel", "@rc,@se,@re,@rd", wide, -1, machine.Pick, 1, "@se", []int{1}},
		{"Send to two", "@rc,@sc,@rc", wide, -1, machine.Deliver, 1, "@sc", []int{1, 1}},
		{"Send to four", "@rc,@rc,@rc,@rc,@sc", api.Env{}, -1, machine.Deliver, 4, "@sc", []int{1, 1, 1, 1}},
		{"Send to three that are ahead and behind", "@rc,@re,@sc,@rc,@rc", api.Env{}, -1, machine.Deliver, 2, "@sc", []int{1, 1, 1}},
		{"Send into a queue from which several receive", "@rd,@sd,@rd", wide, -1, machine.Pick, 1, "@sd", []int{1}},
		{"Now", "@now", api.Env{Kind: 3, Fault: 8}, -1, machine.Pick, 0, "@now", []int{1}},
		{"Now with Skew 1", "@now", api.Env{Skew: 1}, -1, machine.Jumps, 0, "@now", []int{15, 1}},
		{"Now with Skew 8", "@now", api.Env{Skew: 8}, -1, machine.Jumps, 0, "@now", []int{8, 8}},
		{"Now with Skew 3", "@get,@now", api.Env{Skew: 3, Fault: 5}, 1, machine.Jumps, 1, "@now", []int{13, 3}},
		{"Write", "@write", api.Env{Kind: 3, Skew: 8}, -1, machine.Pick, 0, "@write", []int{1}},
		{"Write with Fault 1", "@write", api.Env{Fault: 1}, -1, machine.Loses, 0, "@write", []int{15, 1}},
		{"Write with Fault 8", "@write", api.Env{Fault: 8}, -1, machine.Loses, 0, "@write", []int{8, 8}},
		{"Write with Fault 5", "@get,@write", api.Env{Skew: 3, Fault: 5}, 1, machine.Loses, 1, "@write", []int{11, 5}},
		{"Read", "@read", wide, -1, machine.Pick, 0, "@read", []int{1}},
		{"Get", "@get", wide, -1, machine.Pick, 0, "@get", []int{1}},
		{"Put", "@put", wide, -1, machine.Pick, 0, "@put", []int{1}},
		{"Go", "@go", wide, -1, machine.Pick, 0, "@go", []int{1}},
		{"Acquire", "@al", wide, -1, machine.Pick, 0, "@al", []int{1}},
		{"Release", "@rl", wide, -1, machine.Pick, 0, "@rl", []int{1}},
		{"Sleep", "@sl", wide, -1, machine.Pick, 0, "@sl", []int{1}},
		{"Back", "@back", wide, -1, machine.Pick, 0, "@back", []int{1}},
		{"End", "@end", wide, -1, machine.Pick, 0, "@end", []int{1}},
		{"in a procedure that is called", "@back @back @draw2", wide, -1, machine.Draws, 0, "@draw2", []int{1, 1}},
		{"End behind which there are frames", "@back @end", wide, -1, machine.Pick, 0, "@end", []int{1}},
	} {
		s := p.states(c.at)
		s.Picked = c.picked
		pc := -1
		if c.pc != "" {
			pc = p.at[c.pc]
		}
		before := show(s)
		got, e := machine.Next(p.Code, c.env, s)
		if e != api.OK || got.Kind != c.kind || got.Thread != c.thread || got.PC != pc || !slices.Equal(got.Parts, c.parts) {
			t.Errorf("P9.2: Next, %s: %v %v; want %d %d %d %v", c.what, got, e, c.kind, c.thread, pc, c.parts)
		}
		if show(s) != before {
			t.Errorf("P9.2: Next, %s: the state has changed", c.what)
		}
	}
}
