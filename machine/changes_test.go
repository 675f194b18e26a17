package machine_test

import "culprit/machine"

// A change changes a state of a program. Each of the following functions returns one.
type change func(p program, s *machine.State)

func all(l ...change) change {
	return func(p program, s *machine.State) {
		for _, f := range l {
			f(p, s)
		}
	}
}

func lastFrame(s *machine.State, t int) *machine.Frame {
	return &s.Threads[t].Frames[len(s.Threads[t].Frames)-1]
}

// to makes a thread stand at a label.
func to(t int, label string) change {
	return func(p program, s *machine.State) { lastFrame(s, t).PC = p.thread(label).Frames[0].PC }
}

// calls adds a frame at a label.
func calls(t int, label string, locals ...int) change {
	return func(p program, s *machine.State) {
		s.Threads[t].Frames = append(s.Threads[t].Frames, machine.Frame{PC: p.thread(label).Frames[0].PC, Locals: locals})
	}
}

// returns takes the last frame away.
func returns(t int) change {
	return func(_ program, s *machine.State) {
		s.Threads[t].Frames = s.Threads[t].Frames[:len(s.Threads[t].Frames)-1]
	}
}

func stack(t int, l ...int) change {
	return func(_ program, s *machine.State) { s.Threads[t].Stack = l }
}

func local(t, i, n int) change {
	return func(_ program, s *machine.State) { lastFrame(s, t).Locals[i] = n }
}

func wake(t, n int) change {
	return func(_ program, s *machine.State) { s.Threads[t].Wake = n }
}

func ended(t int) change {
	return func(_ program, s *machine.State) { s.Threads[t] = machine.Thread{Ended: true} }
}

// starts adds a thread that stands at a label.
func starts(label string, locals ...int) change {
	return func(p program, s *machine.State) {
		s.Threads = append(s.Threads, machine.Thread{Frames: []machine.Frame{{PC: p.thread(label).Frames[0].PC, Locals: locals}}})
	}
}

func vars(l ...int) change {
	return func(_ program, s *machine.State) { s.Vars = l }
}

func queues(l ...[]int) change {
	return func(_ program, s *machine.State) { s.Queues = l }
}

func owners(l ...int) change {
	return func(_ program, s *machine.State) { s.Owners = l }
}

func files(l ...int) change {
	return func(_ program, s *machine.State) { s.Files = l }
}

func clock(n int) change {
	return func(_ program, s *machine.State) { s.Clock = n }
}

func fuel(n int) change {
	return func(_ program, s *machine.State) { s.Fuel = n }
}

func steps(n int) change {
	return func(_ program, s *machine.State) { s.Cost.Steps = n }
}

func allocs(n int) change {
	return func(_ program, s *machine.State) { s.Cost.Allocs = n }
}

func waits(n int) change {
	return func(_ program, s *machine.State) { s.Cost.Waits = n }
}

func picked(t int) change {
	return func(_ program, s *machine.State) { s.Picked = t }
}

// over ends the run.
func over(outcome int, where string, site int) change {
	return func(_ program, s *machine.State) { s.Outcome, s.Where, s.Site = outcome, where, site }
}

// still takes back what a step does to Clock, Steps and Fuel.
func still(_ program, s *machine.State) {
	s.Clock--
	s.Cost.Steps--
	s.Fuel++
}
