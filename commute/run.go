package commute

import (
	"iter"
	"slices"

	"culprit/api"
	"culprit/code"
	"culprit/machine"
	"culprit/play"
)

const (
	goesOn = -1 // the outcome of a run that is not over
	nobody = -1 // the thread of a point at which a thread is picked
)

// A game has what all runs of a code have in common.
type game struct {
	code  code.Code
	env   api.Env
	first machine.State
}

// A run is what was chosen and done so far, and the state to which it led.
type run struct {
	word  []int
	steps []step
	last  machine.State
}

// byWord returns the run by a word, and the game that it is one of.
func byWord(c code.Code, e api.Env, left []api.Cell, word []int) (game, run, api.Errno) {
	states, f := play.States(c, e, left, word)
	if f != api.OK {
		return game{}, run{}, f
	}
	// Package play does not tell at which of its steps a run has chosen what.
	g := game{code: c, env: e, first: states[0]}
	r := g.begin()
	for r.last.Outcome == goesOn {
		p, k := g.point(r), 0
		if isChoice(p) && len(r.word) < len(word) {
			k = word[len(r.word)]
		}
		r = g.follow(r, p, k)
	}
	return g, r, api.OK
}

// both returns the steps of the runs by two words.
func both(c code.Code, e api.Env, left []api.Cell, a, b []int) ([]step, []step, api.Errno) {
	_, r, f := byWord(c, e, left, a)
	if f != api.OK {
		return nil, nil, f
	}
	_, s, f := byWord(c, e, left, b)
	return r.steps, s.steps, f
}

func (g game) begin() run { return run{last: g.first} }

// point returns the point at which a run goes on.
func (g game) point(r run) machine.Point {
	p, _ := machine.Next(g.code, g.env, r.last) // a run that is not over has one
	return p
}

// isChoice reports whether a run can go on in several ways at a point.
func isChoice(p machine.Point) bool { return len(p.Parts) > 1 }

// follow returns a run that has gone on with the alternative k at its point p.
// It shares no memory with others that go on from r.
func (g game) follow(r run, p machine.Point, k int) run {
	s, accesses, _ := machine.Do(g.code, g.env, r.last, k)
	if isChoice(p) {
		r.word = append(slices.Clip(r.word), k)
	}
	if p.Thread != nobody {
		r.steps = append(slices.Clip(r.steps), step{thread: p.Thread, alternative: k, footprint: footprintOf(accesses)})
	}
	r.last = s
	return r
}

// inOrder returns the run in which threads make these steps, one after the
// other.
func (g game) inOrder(steps []step) run {
	r := g.begin()
	for _, x := range steps {
		p := g.point(r)
		if p.Thread == nobody {
			r = g.follow(r, p, slices.Index(machine.Enabled(g.code, r.last), x.thread))
			p = g.point(r)
		}
		r = g.follow(r, p, x.alternative)
	}
	return r
}

// runs yields all runs that begin as r does.
func (g game) runs(r run) iter.Seq[run] {
	return func(yield func(run) bool) {
		if r.last.Outcome != goesOn {
			yield(r)
			return
		}
		p := g.point(r)
		for k := range p.Parts {
			for x := range g.runs(g.follow(r, p, k)) {
				if !yield(x) {
					return
				}
			}
		}
	}
}
