package machine

import (
	"culprit/api"
	"culprit/code"
)

// operations returns the operations of two values.
func operations() map[int]func(a, b int) int {
	return map[int]func(a, b int) int{
		code.Add:   func(a, b int) int { return a + b },
		code.Sub:   func(a, b int) int { return a - b },
		code.Mul:   func(a, b int) int { return a * b },
		code.Less:  func(a, b int) int { return truth(a < b) },
		code.Most:  func(a, b int) int { return truth(a <= b) },
		code.Equal: func(a, b int) int { return truth(a == b) },
	}
}

func truth(is bool) int {
	if is {
		return 1
	}
	return 0
}

// runSilently lets a thread perform silent instructions, until it comes to
// stand at a visible one, or the run is over.
func (r *run) runSilently(t int) {
silent:
	for performed := 0; r.state.Outcome == goesOn; performed++ {
		thread := r.state.Threads[t]
		x := instrOf(r.code, thread)
		switch {
		case standsVisibly(r.code, thread):
			r.comesToStand(t, x)
			break silent
		case performed == api.MaxSilent:
			r.overAt(api.Late, thread)
			break silent
		case !r.isPossible(t, x):
			r.overAt(api.Broken, thread)
			break silent
		}
		r.perform(t, x)
	}
}

// comesToStand does what is due when a thread comes to stand at a visible
// instruction: the access is there, because others can change what it waits
// for, and what it waits for decides who is enabled.
func (r *run) comesToStand(t int, x api.Instr) {
	switch x.Op {
	case code.Sleep:
		r.state.Threads[t].Wake = r.state.Clock + x.A
		r.access(OnClock, theClock, false)
	case code.Acquire:
		if r.state.Owners[x.A] != nobody {
			r.state.Cost.Waits++
		}
		r.access(OnLock, x.A, false)
	case code.Recv:
		if r.code.Chans[x.A].N == 0 {
			r.access(OnChan, x.A, true)
		}
	}
}

// isPossible reports whether an instruction can be done. This is known ahead of
// it, so that nothing has to be taken back.
func (r *run) isPossible(t int, x api.Instr) bool {
	thread := r.state.Threads[t]
	switch x.Op {
	case code.Push, code.Load, code.Machine, code.Get:
		return len(thread.Stack) < api.MaxStack
	case code.Store, code.Zero, code.Check, code.Put, code.Send, code.Write:
		return len(thread.Stack) >= 1
	case code.Add, code.Sub, code.Mul, code.Less, code.Most, code.Equal:
		return len(thread.Stack) >= 2
	case code.Call:
		return len(thread.Frames) < api.MaxCalls
	case code.Go:
		return living(r.state) < api.MaxThreads
	case code.Release:
		return r.state.Owners[x.A] == t
	}
	return true
}

// living returns how many threads have not ended.
func living(s State) int {
	n := 0
	for _, t := range s.Threads {
		n += truth(!t.Ended)
	}
	return n
}

// perform does a silent instruction that can be done.
func (r *run) perform(t int, x api.Instr) {
	thread := &r.state.Threads[t]
	frame := top(*thread)
	frame.PC++
	switch x.Op {
	case code.Push:
		push(thread, x.A)
	case code.Load:
		push(thread, frame.Locals[x.A])
	case code.Machine:
		push(thread, r.env.Kind)
	case code.Store:
		frame.Locals[x.A] = pop(thread)
	case code.Jump:
		frame.PC = x.A
	case code.Zero:
		if pop(thread) == 0 {
			frame.PC = x.A
		}
	case code.Call:
		thread.Frames = append(thread.Frames, frameOf(r.code, x.A))
	case code.Back:
		thread.Frames = thread.Frames[:len(thread.Frames)-1]
	case code.Check:
		if pop(thread) == 0 {
			r.over(api.Failed, r.code.Names[x.B], x.A)
		}
	case code.Alloc:
		r.state.Cost.Allocs += x.A
	default:
		b := pop(thread)
		a := pop(thread)
		push(thread, r.operations[x.Op](a, b))
	}
}

func push(t *Thread, n int) { t.Stack = append(t.Stack, n) }

func pop(t *Thread) int {
	last := len(t.Stack) - 1
	n := t.Stack[last]
	t.Stack = t.Stack[:last]
	return n
}
