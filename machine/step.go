package machine

import (
	"cmp"
	"slices"

	"culprit/api"
	"culprit/code"
)

// A run has the state that is changed, and the accesses of the step so far:
// sorted, each object once.
type run struct {
	code     code.Code
	env      api.Env
	state    State
	accesses []Access
	// By the operation: a function of the value below, and the one above it.
	operations map[int]func(a, b int) int
}

// begin returns a run at a state, which is changed from now on.
func begin(c code.Code, e api.Env, s State) *run {
	return &run{code: c, env: e, state: s, operations: operations()}
}

// step makes the step of a thread that is enabled, with the alternative k.
func (r *run) step(t, k int) {
	thread := r.state.Threads[t]
	x := instrOf(r.code, thread)
	r.accessBy(x, k)
	r.moves(t)
	if !r.isPossible(t, x) {
		r.overAt(api.Broken, thread)
		return
	}
	silent := r.effect(t, x, k)
	r.state.Clock++
	r.state.Cost.Steps++
	r.state.Fuel--
	for _, m := range silent {
		if r.state.Outcome == goesOn {
			r.runSilently(m)
		}
	}
}

// effect does what the instruction x of the thread t does, and returns the
// threads that run silently behind it, in their order.
func (r *run) effect(t int, x api.Instr, k int) []int {
	if x.Op == code.End || x.Op == code.Back {
		r.end(t)
		return nil
	}
	s, thread := &r.state, &r.state.Threads[t]
	// They are found while the thread stands at its Send: behind it, it may
	// stand at a Recv of the same channel.
	var ready []int
	if x.Op == code.Send {
		ready = receivers(r.code, *s, x.A)
	}
	frame := top(*thread)
	frame.PC++
	switch x.Op {
	case code.Get:
		push(thread, s.Vars[x.A])
	case code.Put:
		s.Vars[x.A] = pop(thread)
	case code.Go:
		return []int{r.fork(x.A), t}
	case code.Send:
		if len(ready) > 0 {
			r.deliver(ready[k], pop(thread))
			return []int{ready[k], t}
		}
		s.Queues[x.A] = append(s.Queues[x.A], pop(thread))
	case code.Recv:
		frame.Locals[x.B], s.Queues[x.A] = s.Queues[x.A][0], s.Queues[x.A][1:]
	case code.Acquire:
		s.Owners[x.A] = t
	case code.Release:
		s.Owners[x.A] = nobody
	case code.Draw:
		frame.Locals[x.B] = k
	case code.Now:
		if k == jumped {
			s.Clock++
		}
		frame.Locals[x.A] = s.Clock
	case code.Write:
		if n := pop(thread); k != lost {
			s.Files[x.A] = n
		}
	case code.Read:
		frame.Locals[x.B] = s.Files[x.A]
	}
	return []int{t}
}

func (r *run) end(t int) {
	r.state.Threads[t] = Thread{Ended: true}
	if t == 0 {
		r.over(api.Passed, "", 0)
	}
}

// fork starts a thread, and returns its number.
func (r *run) fork(procedure int) int {
	t := len(r.state.Threads)
	r.state.Threads = append(r.state.Threads, Thread{Frames: []Frame{frameOf(r.code, procedure)}})
	r.moves(t)
	return t
}

// deliver hands a value to a thread that stands at a Recv.
func (r *run) deliver(t, n int) {
	frame := top(r.state.Threads[t])
	frame.Locals[r.code.Instrs[frame.PC].B] = n
	frame.PC++
	r.moves(t)
}

// settle ends a run that cannot go on, or lets the clock go on to where it can.
func (r *run) settle() {
	s := &r.state
	if s.Outcome != goesOn {
		return
	}
	if s.Fuel == 0 {
		r.overAt(api.Late, s.Threads[0])
		return
	}
	if len(enabled(r.code, *s)) > 0 {
		return
	}
	if wake, sleeps := r.leastWake(); sleeps {
		s.Clock = wake
	} else {
		r.overAt(api.Stuck, s.Threads[0])
	}
}

// leastWake returns when the first one of the threads that sleep wakes, and
// whether there is one.
func (r *run) leastWake() (int, bool) {
	least, sleeps := 0, false
	for _, t := range r.state.Threads {
		if t.Ended || instrOf(r.code, t).Op != code.Sleep {
			continue
		}
		if !sleeps || t.Wake < least {
			least, sleeps = t.Wake, true
		}
	}
	return least, sleeps
}

func (r *run) over(outcome int, where string, site int) {
	r.state.Outcome, r.state.Where, r.state.Site = outcome, where, site
}

// overAt ends the run at the place where a thread stands.
func (r *run) overAt(outcome int, t Thread) {
	pc := top(t).PC
	r.over(outcome, code.Where(r.code, pc), pc-r.code.Begins[procedureOf(r.code, pc)])
}

// accessBy accesses what an instruction does with the alternative k, whether
// or not it can be done.
func (r *run) accessBy(x api.Instr, k int) {
	switch x.Op {
	case code.Get:
		r.access(OnVar, x.A, false)
	case code.Put:
		r.access(OnVar, x.A, true)
	case code.Send, code.Recv:
		r.access(OnChan, x.A, true)
	case code.Acquire, code.Release:
		r.access(OnLock, x.A, true)
	case code.Read:
		r.access(OnFile, x.A, false)
	case code.Write:
		r.access(OnFile, x.A, true)
	case code.Now:
		r.access(OnClock, theClock, k == jumped)
	case code.Sleep:
		r.access(OnClock, theClock, false)
	case code.Go, code.End, code.Back:
		r.access(OnThreads, allThreads, true)
	}
}

// moves accesses a thread that the step moves.
func (r *run) moves(t int) { r.access(OnThreads, firstOf+t, true) }

func (r *run) access(kind, obj int, change bool) {
	x := Access{Kind: kind, Obj: obj, Change: change}
	i, known := slices.BinarySearchFunc(r.accesses, x, byObject)
	if !known {
		r.accesses = slices.Insert(r.accesses, i, x)
	} else if change {
		r.accesses[i].Change = true
	}
}

func byObject(a, b Access) int {
	return cmp.Or(cmp.Compare(a.Kind, b.Kind), cmp.Compare(a.Obj, b.Obj))
}
