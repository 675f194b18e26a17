package machine

import (
	"culprit/api"
	"culprit/code"
)

// Next returns the point of a state.
func Next(c code.Code, e api.Env, s State) (Point, api.Errno) {
	if f := Valid(c, s); f != api.OK {
		return Point{}, f
	}
	if !isProper(e) {
		return Point{}, api.ErrArg
	}
	if s.Outcome != goesOn {
		return Point{}, api.ErrState
	}
	t := s.Picked
	if t == nobody {
		able := enabled(c, s)
		if len(able) > 1 {
			return Point{Kind: Pick, Thread: nobody, PC: -1, Parts: equalParts(len(able))}, api.OK
		}
		t = able[0]
	}
	p := Point{Thread: t, PC: top(s.Threads[t]).PC}
	p.Kind, p.Parts = choiceOf(c, e, s, c.Instrs[p.PC])
	return p, api.OK
}

// choiceOf returns the kind and the parts of the point of an instruction.
func choiceOf(c code.Code, e api.Env, s State, x api.Instr) (int, []int) {
	switch x.Op {
	case code.Draw:
		return Draws, equalParts(x.A)
	case code.Send:
		if n := len(receivers(c, s, x.A)); n > 1 {
			return Deliver, equalParts(n)
		}
	case code.Now:
		if e.Skew != 0 {
			return Jumps, []int{sixteenths - e.Skew, e.Skew}
		}
	case code.Write:
		if e.Fault != 0 {
			return Loses, []int{sixteenths - e.Fault, e.Fault}
		}
	}
	return Pick, equalParts(1)
}

func equalParts(n int) []int {
	parts := make([]int, n)
	for i := range parts {
		parts[i] = 1
	}
	return parts
}

// Enabled returns the threads that are enabled.
func Enabled(c code.Code, s State) []int {
	if Valid(c, s) != api.OK || s.Outcome != goesOn {
		return nil
	}
	return enabled(c, s)
}

// enabled does what Enabled does, without looking whether the state is valid.
func enabled(c code.Code, s State) []int {
	var able []int
	for i, t := range s.Threads {
		if !t.Ended && isEnabled(c, s, t) {
			able = append(able, i)
		}
	}
	return able
}

// isEnabled reports whether the instruction at which a thread stands allows a
// step.
func isEnabled(c code.Code, s State, t Thread) bool {
	x := instrOf(c, t)
	switch x.Op {
	case code.Acquire:
		return s.Owners[x.A] == nobody
	case code.Send:
		return len(s.Queues[x.A]) < c.Chans[x.A].N || len(receivers(c, s, x.A)) > 0
	case code.Recv:
		return len(s.Queues[x.A]) > 0
	case code.Sleep:
		return s.Clock >= t.Wake
	}
	return true
}

// receivers returns the threads to which a value that is sent can go at once:
// those that stand at a Recv of a channel without a capacity.
func receivers(c code.Code, s State, channel int) []int {
	if c.Chans[channel].N > 0 {
		return nil
	}
	var ready []int
	for i, t := range s.Threads {
		if t.Ended {
			continue
		}
		if x := instrOf(c, t); x.Op == code.Recv && x.A == channel {
			ready = append(ready, i)
		}
	}
	return ready
}
