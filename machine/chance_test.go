package machine_test

import (
	"math"
	"math/rand/v2"
	"slices"
	"strconv"
	"testing"

	"culprit/api"
	"culprit/code"
	"culprit/machine"
)

// A maker makes codes, environments and states by chance.
type maker struct {
	*rand.Rand
	c code.Code
}

func newMaker(seed uint64) *maker { return &maker{Rand: rand.New(rand.NewPCG(9, seed))} }

// someNames returns names in their order, from the beginning of the alphabet on, so that variables and files have the same ones.
func (m *maker) someNames(most int) []string {
	var l []string
	for i := range m.IntN(most + 1) {
		l = append(l, string(rune('a'+i)))
	}
	return l
}

// code returns a valid code. Most of its procedures call and start only those ahead of them.
func (m *maker) code() code.Code {
	m.c = code.Code{Locks: m.someNames(2), Files: m.someNames(2)}
	for _, name := range m.someNames(3) {
		m.c.Vars = append(m.c.Vars, api.Cell{Name: name, N: m.IntN(5) - 1})
	}
	for _, name := range m.someNames(3) {
		m.c.Chans = append(m.c.Chans, api.Cell{Name: name, N: max(0, m.IntN(6)-2)})
	}
	last := m.IntN(4)
	for p := range last + 1 {
		m.c.Names = append(m.c.Names, "p"+strconv.Itoa(p))
		m.c.Locals = append(m.c.Locals, 1+m.IntN(3))
	}
	for p := range last + 1 {
		m.c.Begins = append(m.c.Begins, len(m.c.Instrs))
		m.beginning(p)
		m.block(p, 1+m.IntN(7), 2)
		if p < last {
			m.emit(code.Back, 0, 0)
		}
	}
	m.emit(code.End, 0, 0)
	return m.c
}

// beginning lets half of the tests start several threads, and half of the other procedures receive first, so that threads meet.
func (m *maker) beginning(p int) {
	isTest := p == len(m.c.Names)-1
	switch {
	case m.IntN(2) == 0:
	case isTest && p > 0:
		for range 1 + m.IntN(4) {
			m.emit(code.Go, m.IntN(p), 0)
		}
	case !isTest && len(m.c.Chans) > 0:
		m.emit(code.Recv, m.IntN(len(m.c.Chans)), 0)
	}
}

func (m *maker) emit(op, a, b int) {
	m.c.Instrs = append(m.c.Instrs, api.Instr{Op: op, A: a, B: b})
}

func (m *maker) block(p, n, depth int) {
	for range n {
		m.statement(p, depth)
	}
}

// value emits instructions that push a value.
func (m *maker) value(p int) {
	switch m.IntN(7) {
	case 0, 1:
		m.emit(code.Load, m.IntN(m.c.Locals[p]), 0)
	case 2, 3:
		if len(m.c.Vars) > 0 {
			m.emit(code.Get, m.IntN(len(m.c.Vars)), 0)
			return
		}
		m.emit(code.Machine, 0, 0)
	case 4:
		m.value(p)
		m.value(p)
		m.emit(code.Add+m.IntN(6), 0, 0)
	default:
		m.emit(code.Push, m.IntN(5)-1, 0)
	}
}

// statement emits a statement for which there is what it needs; now and then it is an instruction that may not fit the stack.
func (m *maker) statement(p, depth int) {
	local := m.IntN(m.c.Locals[p])
	if m.IntN(40) == 0 {
		m.odd(p)
		return
	}
	switch kind := m.IntN(17); kind {
	case 0:
		m.value(p)
		m.emit(code.Store, local, 0)
	case 1, 2:
		m.named(p, code.Put, len(m.c.Vars), 0)
	case 3, 4:
		m.named(p, code.Send, len(m.c.Chans), 0)
	case 5, 6, 7:
		m.named(p, code.Recv, len(m.c.Chans), local)
	case 8:
		m.named(p, code.Acquire, len(m.c.Locks), 0)
	case 9:
		m.locked(p, depth)
	case 10:
		m.named(p, code.Write, len(m.c.Files), 0)
	case 11:
		m.named(p, code.Read, len(m.c.Files), local)
	case 12:
		m.emit([]int{code.Draw, code.Now}[m.IntN(2)], 0, 0)
		x := &m.c.Instrs[len(m.c.Instrs)-1]
		if x.A = local; x.Op == code.Draw {
			x.A, x.B = 2+m.IntN(3), local
		}
	case 13:
		m.emit([]int{code.Sleep, code.Alloc}[m.IntN(2)], 1+m.IntN(9), 0)
	case 14:
		m.starts(p)
	case 15:
		m.value(p)
		if m.IntN(3) > 0 { // most checks hold
			m.emit(code.Push, 5, 0)
			m.emit(code.Less, 0, 0)
		}
		m.emit(code.Check, m.IntN(4), p)
	case 16:
		m.branch(p, depth)
	}
}

// named emits an instruction that names one of n things.
func (m *maker) named(p, op, n, local int) {
	if n == 0 {
		return
	}
	if op == code.Put || op == code.Send || op == code.Write {
		m.value(p)
	}
	m.emit(op, m.IntN(n), local)
}

// locked emits a block between an Acquire and a Release.
func (m *maker) locked(p, depth int) {
	if len(m.c.Locks) == 0 || depth == 0 {
		return
	}
	l := m.IntN(len(m.c.Locks))
	m.emit(code.Acquire, l, 0)
	m.block(p, m.IntN(3), depth-1)
	m.emit(code.Release, l, 0)
}

// starts emits a Call or a Go.
func (m *maker) starts(p int) {
	n := p
	if m.IntN(15) == 0 || n == 0 {
		n = len(m.c.Names)
	}
	if q := m.IntN(n); q != p || m.IntN(3) == 0 {
		m.emit([]int{code.Call, code.Go, code.Go}[m.IntN(3)], q, 0)
	}
}

// branch emits an if or a while.
func (m *maker) branch(p, depth int) {
	if depth == 0 {
		return
	}
	begin := len(m.c.Instrs)
	m.value(p)
	zero := len(m.c.Instrs)
	m.emit(code.Zero, 0, 0)
	m.block(p, m.IntN(3), depth-1)
	if m.IntN(2) == 0 {
		m.emit(code.Jump, begin, 0)
	}
	m.c.Instrs[zero].A = len(m.c.Instrs) // there will be another one
}

// odd emits a valid instruction of any kind.
func (m *maker) odd(p int) {
	op := []int{code.Push, code.Store, code.Add, code.Sub, code.Less, code.Zero, code.Put, code.Send, code.Release, code.Write, code.Back, code.Check, code.Call}[m.IntN(13)]
	n := map[int]int{code.Push: 9, code.Store: m.c.Locals[p], code.Put: len(m.c.Vars), code.Send: len(m.c.Chans), code.Release: len(m.c.Locks), code.Write: len(m.c.Files), code.Check: 9, code.Call: len(m.c.Names)}
	switch {
	case op == code.Add || op == code.Sub || op == code.Less:
		m.emit(op, 0, 0)
	case op == code.Zero:
		m.emit(op, m.c.Begins[p]+m.IntN(len(m.c.Instrs)-m.c.Begins[p]+1), 0)
	case op == code.Back:
		if p < len(m.c.Names)-1 {
			m.emit(op, 0, 0)
		}
	case n[op] > 0:
		b := 0
		if op == code.Check {
			b = p
		}
		m.emit(op, m.IntN(n[op]), b)
	}
}

func (m *maker) env() api.Env {
	return api.Env{Kind: m.IntN(4), Fault: m.IntN(2) * m.IntN(9), Skew: m.IntN(2) * m.IntN(9)}
}

func (m *maker) left() []api.Cell {
	var l []api.Cell
	for range m.IntN(5) {
		l = append(l, api.Cell{Name: string(rune('a' + m.IntN(5))), N: m.IntN(9) - 4})
	}
	return l
}

// runs calls f for codes by chance, with environments and what is left.
func runs(t *testing.T, n int, f func(m *maker, c code.Code, e api.Env, left []api.Cell)) {
	t.Helper()
	for seed := range uint64(n) {
		m := newMaker(seed)
		c := m.code()
		if at, e := code.Valid(c); e != api.OK {
			t.Fatal("the maker is wrong:", seed, at, e)
		}
		f(m, c, m.env(), m.left())
		if t.Failed() {
			t.Fatal("the seed is", seed)
		}
	}
}

// A count tells how often something was seen, by its name, so that a test is known to look at everything.
type count map[string]int

func (n count) state(s machine.State) { n["outcome "+strconv.Itoa(s.Outcome)]++ }

func (n count) check(t *testing.T, least int, names ...string) {
	t.Helper()
	for _, name := range names {
		if n[name] < least {
			t.Errorf("the test has seen only %d times: %s", n[name], name)
		}
	}
}

// TestReference compares runs with those of the reference.
func TestReference(t *testing.T) {
	seen := count{}
	runs(t, 8000, func(m *maker, c code.Code, e api.Env, left []api.Cell) {
		s, f := machine.Start(c, e, left)
		if want := refStart(c, e, left); f != api.OK || !machine.Same(s, want) {
			t.Fatalf("P9.1: Start: %v\n%s; want\n%s", f, show(s), show(want))
		}
		for s.Outcome == -1 {
			seen.state(s)
			n := compare(t, c, e, s, seen)
			if t.Failed() {
				return
			}
			s, _, _ = machine.Do(c, e, s, m.IntN(n))
		}
		seen.state(s)
		compare(t, c, e, s, seen)
	})
	seen.check(t, 50, "outcome -1", "outcome 0", "outcome 1", "outcome 2", "outcome 3", "outcome 4", "point 0", "point 1", "point 2", "point 3", "point 4", "several", "accesses")
}

// compare compares what is said of a state, and what all of its alternatives make of it, with the reference; it returns how many there are.
func compare(t *testing.T, c code.Code, e api.Env, s machine.State, seen count) int {
	t.Helper()
	valid := refValid(c, s)
	if got := machine.Valid(c, s); (got == api.OK) != valid || got != api.OK && got != api.ErrArg {
		t.Fatalf("P9.5: Valid of %s: %v; want %t", show(s), got, valid)
	}
	if !valid {
		return 0
	}
	if got, want := machine.Left(c, s), refLeft(c, s); !slices.Equal(got, want) {
		t.Fatalf("P9.4: Left of %s: %v; want %v", show(s), got, want)
	}
	if s.Outcome != -1 {
		return 0
	}
	m := newModel(c, e, s)
	if got, want := machine.Enabled(c, s), m.enabled(); !slices.Equal(got, want) {
		t.Fatalf("P9.4: Enabled of %s: %v; want %v", show(s), got, want)
	}
	got, f := machine.Next(c, e, s)
	want := m.point()
	if f != api.OK || got.Kind != want.Kind || got.Thread != want.Thread || got.PC != want.PC || !slices.Equal(got.Parts, want.Parts) {
		t.Fatalf("P9.2: Next of %s: %v %v; want %v", show(s), got, f, want)
	}
	seen["point "+strconv.Itoa(want.Kind)]++
	for k := range want.Parts {
		after, l, f := machine.Do(c, e, s, k)
		wantAfter, wantAccesses := refDo(c, e, s, k)
		if f != api.OK || !machine.Same(after, wantAfter) || !slices.Equal(l, wantAccesses) {
			t.Fatalf("P9.3: Do of %d in\n%s: %v\n%s %s; want\n%s %s", k, show(s), f, show(after), showAccesses(l), show(wantAfter), showAccesses(wantAccesses))
		}
		if len(l) > 2 {
			seen["accesses"]++
		}
	}
	if want.Thread == -1 {
		seen["several"]++
	}
	return len(want.Parts)
}

// TestReferenceOfOthers compares states that no run has: those of runs with changes.
func TestReferenceOfOthers(t *testing.T) {
	seen := count{}
	runs(t, 4000, func(m *maker, c code.Code, e api.Env, left []api.Cell) {
		s, _ := machine.Start(c, e, left)
		for n := 0; s.Outcome == -1 && n < 20; n++ {
			for range 4 {
				changed := copyState(s)
				for range 1 + m.IntN(3) {
					m.change(c, &changed)
				}
				if refValid(c, changed) {
					seen["valid"]++
					seen.state(changed)
				} else {
					seen["not valid"]++
				}
				compare(t, c, e, changed, seen)
			}
			p, _ := machine.Next(c, e, s)
			s, _, _ = machine.Do(c, e, s, m.IntN(len(p.Parts)))
		}
	})
	seen.check(t, 50, "valid", "not valid", "outcome -1", "outcome 0", "outcome 4", "point 0", "point 1", "point 2", "point 3", "point 4", "several", "accesses")
}

// change changes a state in one part.
func (m *maker) change(c code.Code, s *machine.State) {
	edges := []int{math.MinInt, -2, -1, 0, 1, 2, 3, 4, 5, 63, 64, 65, 1 << 20, 1<<20 + 1, math.MaxInt}
	some := func() int { return edges[m.IntN(len(edges))] }
	lists := []*[]int{&s.Vars, &s.Owners, &s.Files}
	for i := range s.Queues {
		lists = append(lists, &s.Queues[i], &s.Queues[i])
	}
	switch m.IntN(9) {
	case 0:
		numbers := []*int{&s.Clock, &s.Fuel, &s.Cost.Steps, &s.Cost.Allocs, &s.Cost.Waits, &s.Picked, &s.Outcome, &s.Site}
		*numbers[m.IntN(len(numbers))] = some()
	case 1:
		s.Where = []string{"", "p0"}[m.IntN(2)]
	case 2:
		l := lists[m.IntN(len(lists))]
		if n := m.IntN(len(*l) + 1); m.IntN(3) == 0 {
			*l = slices.Insert(*l, n, some())
		} else if n < len(*l) {
			(*l)[n] = []int{some(), m.IntN(3) - 1}[m.IntN(2)]
		}
	case 3:
		s.Picked, s.Outcome = -1, m.IntN(5)
	case 4:
		s.Picked = m.IntN(len(s.Threads)+2) - 1
	default:
		if len(s.Threads) > 0 {
			m.changeThread(c, s)
		}
	}
}

func (m *maker) changeThread(c code.Code, s *machine.State) {
	t := &s.Threads[m.IntN(len(s.Threads))]
	anywhere := func() machine.Frame {
		at := m.IntN(len(c.Instrs))
		if seen := m.Perm(len(c.Instrs)); m.IntN(4) > 0 { // most often a visible one
			at = seen[max(0, slices.IndexFunc(seen, func(i int) bool { return code.Visible(c.Instrs[i].Op) }))]
		}
		return machine.Frame{PC: at, Locals: make([]int, max(0, c.Locals[procedureAt(c, at)]+m.IntN(21)/20))}
	}
	switch m.IntN(6) {
	case 0:
		t.Stack = make([]int, m.IntN(18))
	case 1:
		t.Wake = []int{-1, 0, 1, s.Clock, s.Clock + 1, 1 << 20, 1<<20 + 1}[m.IntN(7)]
	case 2:
		*t = machine.Thread{Ended: m.IntN(9) > 0}
	case 3:
		s.Threads = append(s.Threads, machine.Thread{Frames: []machine.Frame{anywhere()}})
	case 4:
		t.Frames = append(t.Frames, anywhere())
	case 5:
		t.Frames = []machine.Frame{anywhere()}
		for range m.IntN(3) * m.IntN(5) {
			t.Frames = append(t.Frames, anywhere())
		}
	}
}
