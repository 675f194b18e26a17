package race

import (
	"slices"

	"culprit/api"
	"culprit/code"
	"culprit/machine"
	"culprit/play"
)

const (
	goesOn      = -1 // the outcome of a run that is not over
	nobody      = -1 // the thread of a point at which a thread is picked
	firstThread = 1  // the object OnThreads of the thread 0; those of the others follow
)

// A step is what a thread does at once: at which instruction, by which
// alternative at its point, and which threads it moves.
type step struct {
	thread, pc, alternative int
	instr                   api.Instr
	moved                   []int
}

// A run is what was chosen and done so far, and the state to which it led.
type run struct {
	code  code.Code
	env   api.Env
	word  []int
	steps []step
	last  machine.State
}

// begin returns a run of which nothing is done yet, and the error of a word
// that is none of its code. Each copy of it can go on by itself.
func begin(c code.Code, e api.Env, left []api.Cell, word []int) (run, api.Errno) {
	states, f := play.States(c, e, left, word)
	if f != api.OK {
		return run{}, f
	}
	return run{code: c, env: e, last: states[0]}, api.OK
}

// by returns the whole run by a word, from one of which nothing is done yet.
func (r run) by(word []int) run {
	for r.last.Outcome == goesOn {
		p, k := r.point(), 0
		if isChoice(p) && len(r.word) < len(word) {
			k = word[len(r.word)]
		}
		r.goOn(p, k)
	}
	return r
}

// turned returns the whole run, from one of which nothing is done yet, in which
// there are the same steps as these, and then the alternative 0 at each point;
// false, if they cannot be made.
func (r run) turned(steps []step) (run, bool) {
	for _, x := range steps {
		if !r.repeat(x) {
			return run{}, false
		}
	}
	for r.last.Outcome == goesOn {
		r.goOn(r.point(), 0)
	}
	return r, true
}

// repeat makes the same step as x, and reports whether it can be made.
func (r *run) repeat(x step) bool {
	if r.last.Outcome != goesOn {
		return false
	}
	p := r.point()
	if p.Thread == nobody {
		k := slices.Index(machine.Enabled(r.code, r.last), x.thread)
		if k < 0 {
			return false
		}
		r.goOn(p, k)
		p = r.point()
	}
	k, is := r.alternativeOf(x, p)
	if is {
		r.goOn(p, k)
	}
	return is
}

// alternativeOf returns the alternative at the point p with which the same step
// as x is made, and whether there is one.
func (r *run) alternativeOf(x step, p machine.Point) (int, bool) {
	if p.Thread != x.thread || p.PC != x.pc {
		return 0, false
	}
	switch x.instr.Op {
	case code.Draw, code.Now, code.Write:
		return x.alternative, true
	case code.Send:
		// The receiver has another number, if others are there to receive.
		k := 0
		for k < len(p.Parts) && !slices.Equal(r.movedWith(k), x.moved) {
			k++
		}
		return k, k < len(p.Parts)
	}
	return 0, true
}

// point returns the point at which a run goes on.
func (r *run) point() machine.Point {
	p, _ := machine.Next(r.code, r.env, r.last) // a run that is not over has one
	return p
}

// isChoice reports whether a run can go on in several ways at a point.
func isChoice(p machine.Point) bool { return len(p.Parts) > 1 }

// goOn goes on with the alternative k at the point p.
func (r *run) goOn(p machine.Point, k int) {
	s, accesses, _ := machine.Do(r.code, r.env, r.last, k)
	if isChoice(p) {
		r.word = append(r.word, k)
	}
	if p.Thread != nobody {
		r.steps = append(r.steps, step{p.Thread, p.PC, k, r.code.Instrs[p.PC], movedBy(accesses)})
	}
	r.last = s
}

// movedWith returns the threads that are moved with the alternative k.
func (r *run) movedWith(k int) []int {
	_, accesses, _ := machine.Do(r.code, r.env, r.last, k)
	return movedBy(accesses)
}

// movedBy returns the threads that a step with these accesses moves.
func movedBy(l []machine.Access) []int {
	var threads []int
	for _, a := range l {
		if a.Kind == machine.OnThreads && a.Obj >= firstThread && a.Change {
			threads = append(threads, a.Obj-firstThread)
		}
	}
	return threads
}
