package race

import (
	"cmp"

	"culprit/code"
	"culprit/machine"
)

// An order is a run with what is known of the order of its steps.
type order struct {
	run     run
	clocks  [][]int
	threads []int
}

func orderOf(r run) order {
	o := order{run: r, clocks: clocksOf(r)}
	for _, x := range r.steps {
		o.threads = append(o.threads, x.thread)
	}
	return o
}

func (o order) isBefore(i, k int) bool { return Before(o.clocks, o.threads, i, k) }

// races returns the races of a run, by First, then by Second.
func (o order) races() []Race {
	c, steps := o.run.code, o.run.steps
	var l []Race
	for i, x := range steps {
		for k := i + 1; k < len(steps); k++ {
			y := steps[k]
			if !doClash(x, y) || o.isBefore(i, k) {
				continue
			}
			l = append(l, Race{
				First: i, Second: k,
				Var:    c.Vars[x.instr.A].Name,
				Wheres: [2]string{code.Where(c, x.pc), code.Where(c, y.pc)},
				PCs:    [2]int{x.pc, y.pc},
			})
		}
	}
	return l
}

// doClash reports whether two steps access one variable, and one of them puts
// it.
func doClash(x, y step) bool {
	a, b := x.instr, y.instr
	return isOnVar(a.Op) && isOnVar(b.Op) && a.A == b.A && (a.Op == code.Put || b.Op == code.Put)
}

func isOnVar(op int) bool { return op == code.Get || op == code.Put }

// withoutFirst returns the steps with which a race is turned: all up to its
// second one, but for its first one and those that this is before.
func (o order) withoutFirst(r Race) []step {
	var l []step
	for k, x := range o.run.steps[:r.Second+1] {
		if k != r.First && !o.isBefore(r.First, k) {
			l = append(l, x)
		}
	}
	return l
}

// An object is what steps are bound by: a thread that they move, or a lock, a
// channel or a file that their instructions name.
type object struct{ kind, number int }

// A bond binds a step to the others with one of the same object, if one of
// both changes it.
type bond struct {
	object  object
	changes bool
}

// bonds returns the bonds of a step. Its accesses have more: those of threads
// that come to stand somewhere, which are bound by nothing there.
func (x step) bonds() []bond {
	var l []bond
	for _, t := range x.moved {
		l = append(l, bond{object{machine.OnThreads, t}, true})
	}
	switch op, a := x.instr.Op, x.instr.A; op {
	case code.Acquire, code.Release:
		l = append(l, bond{object{machine.OnLock, a}, true})
	case code.Send, code.Recv:
		l = append(l, bond{object{machine.OnChan, a}, true})
	case code.Read, code.Write:
		l = append(l, bond{object{machine.OnFile, a}, op == code.Write})
	}
	return l
}

// A past has the joined clocks of the steps that are bound to an object so far:
// of those that changed it, and of all.
type past struct{ changing, all []int }

// clocksOf returns the clocks of the steps of a run.
func clocksOf(r run) [][]int {
	pasts := map[object]past{}
	var clocks [][]int
	for _, x := range r.steps {
		clock := make([]int, len(r.last.Threads))
		for _, b := range x.bonds() {
			clock = join(clock, pasts[b.object].of(b))
		}
		clock[x.thread]++
		for _, b := range x.bonds() {
			pasts[b.object] = pasts[b.object].with(b, clock)
		}
		clocks = append(clocks, clock)
	}
	return clocks
}

// of returns what a step with the bond b is behind.
func (p past) of(b bond) []int {
	if b.changes {
		return p.all
	}
	return p.changing
}

// with returns the past with a step with the bond b, and its clock, behind it.
func (p past) with(b bond, clock []int) past {
	if b.changes {
		p.changing = join(p.changing, clock)
	}
	p.all = join(p.all, clock)
	return p
}

// join returns the greater ones of the elements of two lists; where one of them
// has none, that of the other one.
func join[T cmp.Ordered](a, b []T) []T {
	if len(a) < len(b) {
		a, b = b, a
	}
	joined := append([]T(nil), a...)
	for i, x := range b {
		joined[i] = max(joined[i], x)
	}
	return joined
}
