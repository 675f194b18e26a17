package play

import (
	"iter"

	"culprit/api"
	"culprit/code"
	"culprit/machine"
)

const goesOn = -1 // the outcome of a run that is not over

// A game is a run that is played: its code and environment, and what chooses
// an alternative where there are several ones.
type game struct {
	code   code.Code
	env    api.Env
	choose func(s machine.State, p machine.Point) int
}

// An alternative is what a run does at a point: which one it is, what it
// accesses, and the state behind it.
type alternative struct {
	point    machine.Point
	k        int
	accesses []machine.Access
	state    machine.State
}

// A listener is told what a run does, while it does it.
type listener struct {
	comes   func(s machine.State)                // to each state
	chooses func(p machine.Point, k int)         // at a point with several parts
	steps   func(thread int, l []machine.Access) // at a point with a thread
}

// alternatives yields what a run does from a state on, until it is over, or
// what is chosen is no alternative; then the error is yielded last.
func (g game) alternatives(from machine.State) iter.Seq2[alternative, api.Errno] {
	return func(yield func(alternative, api.Errno) bool) {
		for s := from; s.Outcome == goesOn; {
			a, e := g.next(s)
			if !yield(a, e) || e != api.OK {
				return
			}
			s = a.state
		}
	}
}

// next returns what a run does in a state.
func (g game) next(s machine.State) (alternative, api.Errno) {
	p, e := machine.Next(g.code, g.env, s)
	if e != api.OK {
		return alternative{}, e
	}
	k := 0
	if isChoice(p) {
		k = g.choose(s, p)
	}
	behind, accesses, e := machine.Do(g.code, g.env, s, k)
	return alternative{point: p, k: k, accesses: accesses, state: behind}, e
}

// isChoice reports whether a run can go on in several ways at a point.
func isChoice(p machine.Point) bool { return len(p.Parts) > 1 }

// tell goes through a run from its first state on, and tells a listener of it.
func (g game) tell(first machine.State, l listener) api.Errno {
	l.comes(first)
	for a, e := range g.alternatives(first) {
		if e != api.OK {
			return e
		}
		if isChoice(a.point) {
			l.chooses(a.point, a.k)
		}
		if a.point.Thread >= 0 {
			l.steps(a.point.Thread, a.accesses)
		}
		l.comes(a.state)
	}
	return api.OK
}

// record returns the run from a first state on, but for the root of its
// states, and these.
func (g game) record(first machine.State) (Run, []machine.State, api.Errno) {
	var r Run
	var states []machine.State
	e := g.tell(first, listener{
		comes:   func(s machine.State) { states = append(states, s) },
		chooses: func(p machine.Point, k int) { r.Moves = append(r.Moves, Move{Point: p, K: k}) },
		steps: func(thread int, l []machine.Access) {
			r.Threads, r.Access = append(r.Threads, thread), append(r.Access, l)
		},
	})
	if e != api.OK {
		return Run{}, nil, e
	}
	last := states[len(states)-1]
	r.Result = api.Result{Outcome: last.Outcome, Where: last.Where, Site: last.Site, Cost: last.Cost}
	r.Left = machine.Left(g.code, last)
	return r, states, api.OK
}
