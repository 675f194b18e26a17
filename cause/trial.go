package cause

import (
	"slices"
	"strings"

	"culprit/api"
	"culprit/code"
	"culprit/machine"
	"culprit/play"
	"culprit/shrink"
)

const (
	goesOn   = -1 // the outcome of a run that is not over
	noChoice = -1 // the number of a choice that a leftover has
)

// kindOf has the kind of cause for each kind of point.
var kindOf = [machine.Points]int{
	machine.Pick:    Order,
	machine.Draws:   Number,
	machine.Deliver: Delivery,
	machine.Jumps:   Jump,
	machine.Loses:   Loss,
}

// A trial is all on which a run depends.
type trial struct {
	code code.Code
	env  api.Env
	left []api.Cell
	word []int
}

// run makes the run that does at each choice the alternative with the number
// that is called for, if there is one, and otherwise 0. It returns the causes
// of all choices, and the last state.
func (t trial) run(number func(at int) int) ([]Cause, machine.State, api.Errno) {
	s, f := machine.Start(t.code, t.env, t.left)
	if f != api.OK {
		return nil, machine.State{}, f
	}
	var choices []Cause
	for s.Outcome == goesOn {
		p, _ := machine.Next(t.code, t.env, s) // a run that is not over has a point
		at := len(choices)
		if len(p.Parts) == 1 {
			s, _, _ = machine.Do(t.code, t.env, s, 0)
			continue
		}
		k := number(at)
		if k < 0 || k >= len(p.Parts) {
			k = 0
		}
		s, _, _ = machine.Do(t.code, t.env, s, k)
		choices = append(choices, t.causeOf(p, k, at, s))
	}
	return choices, s, api.OK
}

// follow makes the run that follows the word.
func (t trial) follow() ([]Cause, machine.State) {
	choices, last, _ := t.run(func(at int) int {
		if at >= len(t.word) {
			return 0
		}
		return t.word[at]
	})
	return choices, last
}

// causeOf returns the cause of a choice with the state behind it.
func (t trial) causeOf(p machine.Point, k, at int, behind machine.State) Cause {
	pc := p.PC
	if p.Kind == machine.Pick {
		frames := behind.Threads[behind.Picked].Frames
		pc = frames[len(frames)-1].PC
	}
	return Cause{Kind: kindOf[p.Kind], Where: code.Where(t.code, pc), PC: pc - t.beginOf(pc), K: k, At: at}
}

// beginOf returns the beginning of the procedure of an instruction.
func (t trial) beginOf(pc int) int {
	begin := 0
	for _, b := range t.code.Begins {
		if b <= pc {
			begin = b
		}
	}
	return begin
}

// causes returns the causes of the word, which shows a want.
func (t trial) causes(w shrink.Want) []Cause {
	return slices.DeleteFunc(t.suspects(), func(x Cause) bool {
		_, last := t.without(x).follow()
		return shrink.Shows(api.Result{Outcome: last.Outcome, Where: last.Where, Site: last.Site}, w)
	})
}

// suspects returns the causes of all choices that are not 0, and behind them
// those of all leftovers.
func (t trial) suspects() []Cause { return append(t.chosen(), t.leftovers()...) }

// chosen returns the causes of all choices that are not 0.
func (t trial) chosen() []Cause {
	choices, _ := t.follow()
	return slices.DeleteFunc(choices, func(x Cause) bool { return x.K == 0 })
}

// leftovers returns the causes of all leftovers, sorted by their names.
func (t trial) leftovers() []Cause {
	var l []Cause
	for _, x := range t.left {
		l = append(l, Cause{Kind: Leftover, K: x.N, At: noChoice, Name: x.Name})
	}
	// It has to be stable: of the cells with a name only the first one counts.
	slices.SortStableFunc(l, func(a, b Cause) int { return strings.Compare(a.Name, b.Name) })
	return slices.CompactFunc(l, func(a, b Cause) bool { return a.Name == b.Name })
}

// without returns the trial without a cause, which is one of its suspects.
func (t trial) without(x Cause) trial {
	if x.Kind == Leftover {
		t.left = slices.DeleteFunc(slices.Clone(t.left), func(a api.Cell) bool { return a.Name == x.Name })
	} else {
		t.word = slices.Clone(t.word)
		t.word[x.At] = 0
	}
	return t
}

// play returns the run that follows the word.
func (t trial) play() play.Run {
	choices, _ := t.follow()
	r, _ := play.Play(t.code, t.env, t.left, numbersOf(choices)) // these numbers are a word of the code
	return r
}

// numbersOf returns the numbers of choices.
func numbersOf(choices []Cause) []int {
	var l []int
	for _, x := range choices {
		l = append(l, x.K)
	}
	return l
}
