package machine

import (
	"slices"

	"culprit/api"
	"culprit/code"
)

func isProper(e api.Env) bool {
	return isFrom(e.Kind, 0, api.MaxKinds-1) && isFrom(e.Fault, 0, api.MaxOdds) && isFrom(e.Skew, 0, api.MaxOdds)
}

func isFrom(n, least, most int) bool { return least <= n && n <= most }

// Valid returns OK for a state that is valid for a code.
func Valid(c code.Code, s State) api.Errno {
	if _, e := code.Valid(c); e != api.OK {
		return e
	}
	// Each of these rests on the ones ahead of it.
	if !validThreads(c, s) || !validMemory(c, s) || !validNumbers(s) || !validOutcome(c, s) {
		return api.ErrArg
	}
	return api.OK
}

func validThreads(c code.Code, s State) bool {
	if !isFrom(len(s.Threads), 1, maxStarted) || living(s) > api.MaxThreads {
		return false
	}
	for _, t := range s.Threads {
		if !validThread(c, t, s.Outcome == goesOn) {
			return false
		}
	}
	return true
}

// validThread examines a thread of a run that goes on, or is over.
func validThread(c code.Code, t Thread, isOn bool) bool {
	if t.Ended {
		return len(t.Frames) == 0 && len(t.Stack) == 0 && t.Wake == 0
	}
	if !isFrom(len(t.Frames), 1, api.MaxCalls) || len(t.Stack) > api.MaxStack || !isFrom(t.Wake, 0, api.MaxTick) {
		return false
	}
	for _, f := range t.Frames {
		if !isFrom(f.PC, 0, len(c.Instrs)-1) || len(f.Locals) != c.Locals[procedureOf(c, f.PC)] {
			return false
		}
	}
	return !isOn || standsVisibly(c, t)
}

// validMemory examines what threads share.
func validMemory(c code.Code, s State) bool {
	if len(s.Vars) != len(c.Vars) || len(s.Queues) != len(c.Chans) || len(s.Owners) != len(c.Locks) || len(s.Files) != len(c.Files) {
		return false
	}
	for i, queue := range s.Queues {
		if len(queue) > c.Chans[i].N {
			return false
		}
	}
	for _, owner := range s.Owners {
		if !isFrom(owner, nobody, len(s.Threads)-1) {
			return false
		}
	}
	return true
}

func validNumbers(s State) bool {
	return isFrom(s.Clock, 0, api.MaxTick) && isFrom(s.Fuel, 0, api.MaxFuel) &&
		min(s.Cost.Steps, s.Cost.Allocs, s.Cost.Waits, s.Site) >= 0 &&
		isFrom(s.Outcome, goesOn, api.Outcomes-1)
}

// validOutcome examines whether a run that is over is not in a step, and
// whether one that goes on can do so.
func validOutcome(c code.Code, s State) bool {
	if s.Outcome != goesOn {
		return s.Picked == nobody
	}
	if s.Where != "" || s.Site != 0 || s.Fuel == 0 || s.Threads[0].Ended {
		return false
	}
	able := enabled(c, s)
	return len(able) > 0 && (s.Picked == nobody || slices.Contains(able, s.Picked))
}
