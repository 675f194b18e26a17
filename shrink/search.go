package shrink

import (
	"iter"
	"slices"

	"culprit/api"
	"culprit/code"
	"culprit/machine"
)

const goesOn = -1 // the outcome of a run that is not over

// A game has what all runs of a code have in common.
type game struct {
	code  code.Code
	env   api.Env
	first machine.State
}

// A choice is where runs part: the numbers of the choices ahead of it, the
// state, and how many alternatives there are.
type choice struct {
	ahead        []int
	state        machine.State
	alternatives int
}

func begin(c code.Code, e api.Env, left []api.Cell) (game, api.Errno) {
	first, f := machine.Start(c, e, left)
	return game{code: c, env: e, first: first}, f
}

// words yields the words of the code in their order, with the last states of
// their runs.
func (g game) words() iter.Seq2[[]int, machine.State] {
	return func(yield func([]int, machine.State) bool) {
		if !yield(nil, g.end(g.first)) {
			return
		}
		// The choices with equally many ones ahead, in the order of these, lead
		// to the words that are longer by one than that, in the same order.
		choices := g.nextChoice(nil, g.first)
		for len(choices) > 0 {
			var next []choice
			for _, x := range choices {
				for k := range x.alternatives {
					word, s := append(slices.Clip(x.ahead), k), g.do(x.state, k)
					if k > 0 && !yield(word, g.end(s)) {
						return
					}
					next = append(next, g.nextChoice(word, s)...)
				}
			}
			choices = next
		}
	}
}

// nextChoice returns the next choice from a state on, with the numbers of those
// ahead of it; none, if the run has no further one.
func (g game) nextChoice(ahead []int, s machine.State) []choice {
	for s.Outcome == goesOn {
		p, _ := machine.Next(g.code, g.env, s) // a run that is not over has a point
		if len(p.Parts) > 1 {
			return []choice{{ahead, s, len(p.Parts)}}
		}
		s = g.do(s, 0)
	}
	return nil
}

// end returns the last state of a run that goes on with the alternative 0 at
// each point.
func (g game) end(s machine.State) machine.State {
	for s.Outcome == goesOn {
		s = g.do(s, 0)
	}
	return s
}

// do returns the state behind an alternative, which is one of the state s.
func (g game) do(s machine.State, k int) machine.State {
	s, _, _ = machine.Do(g.code, g.env, s, k)
	return s
}

// resultOf returns what a want asks for of a run with this last state.
func resultOf(last machine.State) api.Result {
	return api.Result{Outcome: last.Outcome, Where: last.Where, Site: last.Site, Cost: last.Cost}
}
