package machine_test

import (
	"cmp"
	"slices"
	"strings"

	"culprit/api"
	"culprit/code"
	"culprit/machine"
)

// The reference follows the tables of the chapter by the words of the operations. What cannot be done panics in the middle, and the state that was kept ahead of it takes its place.

// A model is a state that is changed in place.
type model struct {
	c    code.Code
	e    api.Env
	s    machine.State
	acc  map[[2]int]bool // by Kind and Obj: whether it is changed
	kept machine.State   // ahead of the instruction that is performed
}

// cannot is what is thrown by what cannot be done.
type cannot struct{}

func newModel(c code.Code, e api.Env, s machine.State) *model {
	return &model{c: c, e: e, s: copyState(s), acc: map[[2]int]bool{}}
}

func (m *model) alive(t int) bool { return !m.s.Threads[t].Ended }

// at returns the word, the fields and the index of the instruction at which a thread stands.
func (m *model) at(t int) (word string, a, b, pc int) {
	f := m.s.Threads[t].Frames
	pc = f[len(f)-1].PC
	x := m.c.Instrs[pc]
	return words[x.Op], x.A, x.B, pc
}

func isIn(word, list string) bool { return slices.Contains(strings.Fields(list), word) }

const visibleWords = "get put go send recv acquire release draw now sleep write read end"

func (m *model) visible(t int) bool {
	word, _, _, _ := m.at(t)
	return isIn(word, visibleWords) || word == "back" && len(m.s.Threads[t].Frames) == 1
}

// waiting returns the other threads that stand at a Recv of a channel without a capacity.
func (m *model) waiting(t, channel int) []int {
	var l []int
	for u := range m.s.Threads {
		if u == t || !m.alive(u) || m.c.Chans[channel].N != 0 {
			continue
		}
		if word, a, _, _ := m.at(u); word == "recv" && a == channel {
			l = append(l, u)
		}
	}
	return l
}

func (m *model) able(t int) bool {
	if !m.alive(t) {
		return false
	}
	word, a, _, _ := m.at(t)
	switch word {
	case "acquire":
		return m.s.Owners[a] == -1
	case "send":
		if m.c.Chans[a].N == 0 {
			return len(m.waiting(t, a)) != 0
		}
		return len(m.s.Queues[a]) < m.c.Chans[a].N
	case "recv":
		return m.c.Chans[a].N != 0 && len(m.s.Queues[a]) != 0
	case "sleep":
		return m.s.Threads[t].Wake <= m.s.Clock
	}
	return true
}

func (m *model) enabled() []int {
	var l []int
	for t := range m.s.Threads {
		if m.able(t) {
			l = append(l, t)
		}
	}
	return l
}

// point returns the point of a state that is valid, and whose run is not over.
func (m *model) point() machine.Point {
	l := m.enabled()
	if m.s.Picked == -1 && len(l) >= 2 {
		return machine.Point{Kind: machine.Pick, Thread: -1, PC: -1, Parts: slices.Repeat([]int{1}, len(l))}
	}
	t := l[0]
	if m.s.Picked != -1 {
		t = m.s.Picked
	}
	word, a, _, pc := m.at(t)
	p := machine.Point{Kind: machine.Pick, Thread: t, PC: pc, Parts: []int{1}}
	switch {
	case word == "draw":
		p.Kind, p.Parts = machine.Draws, slices.Repeat([]int{1}, a)
	case word == "send" && len(m.waiting(t, a)) >= 2:
		p.Kind, p.Parts = machine.Deliver, slices.Repeat([]int{1}, len(m.waiting(t, a)))
	case word == "now" && m.e.Skew > 0:
		p.Kind, p.Parts = machine.Jumps, []int{16 - m.e.Skew, m.e.Skew}
	case word == "write" && m.e.Fault > 0:
		p.Kind, p.Parts = machine.Loses, []int{16 - m.e.Fault, m.e.Fault}
	}
	return p
}

func (m *model) place(t int) (string, int) {
	_, _, _, pc := m.at(t)
	p := procedureAt(m.c, pc)
	return m.c.Names[p], pc - m.c.Begins[p]
}

func (m *model) end(outcome int, where string, site int) {
	m.s.Outcome, m.s.Where, m.s.Site = outcome, where, site
}

func (m *model) push(t, n int) {
	if len(m.s.Threads[t].Stack) == 16 {
		panic(cannot{})
	}
	m.s.Threads[t].Stack = append(m.s.Threads[t].Stack, n)
}

func (m *model) pop(t int) int {
	l := m.s.Threads[t].Stack
	if len(l) == 0 {
		panic(cannot{})
	}
	m.s.Threads[t].Stack = l[:len(l)-1]
	return l[len(l)-1]
}

// grow lets the PC of the frame grow that ran when the instruction was performed.
func (m *model) grow(t int) { lastFrame(&m.s, t).PC++ }

func (m *model) call(t, procedure int) {
	if len(m.s.Threads[t].Frames) == 8 {
		panic(cannot{})
	}
	m.s.Threads[t].Frames = append(m.s.Threads[t].Frames, machine.Frame{PC: m.c.Begins[procedure], Locals: make([]int, m.c.Locals[procedure])})
}

// perform does what it is told, or ends the run, as Broken at the place where a thread stands; then it returns false.
func (m *model) perform(t int, what func()) (done bool) {
	m.kept = copyState(m.s)
	defer func() {
		if x := recover(); x != nil {
			if x != (cannot{}) {
				panic(x)
			}
			m.s = m.kept
			where, site := m.place(t)
			m.end(api.Broken, where, site)
		}
	}()
	what()
	return true
}

// silently lets a thread run silently.
func (m *model) silently(t int) {
	n := 0
	for !m.visible(t) {
		if n == 64 {
			where, site := m.place(t)
			m.end(api.Late, where, site)
			return
		}
		n++
		m.perform(t, func() { m.silent(t) })
		if m.s.Outcome != -1 {
			return
		}
	}
	m.arrive(t)
}

func (m *model) silent(t int) {
	word, a, b, _ := m.at(t)
	f := lastFrame(&m.s, t)
	switch word {
	case "push":
		m.push(t, a)
	case "load":
		m.push(t, f.Locals[a])
	case "machine":
		m.push(t, m.e.Kind)
	case "store":
		f.Locals[a] = m.pop(t)
	case "jump":
		f.PC = a
		return
	case "zero":
		if m.pop(t) == 0 {
			f.PC = a
			return
		}
	case "call":
		m.grow(t)
		m.call(t, a)
		return
	case "back":
		m.s.Threads[t].Frames = m.s.Threads[t].Frames[:len(m.s.Threads[t].Frames)-1]
		return
	case "check":
		if m.pop(t) == 0 {
			m.end(api.Failed, m.c.Names[b], a)
		}
	case "alloc":
		m.s.Cost.Allocs += a
	default:
		m.calculate(t, word)
	}
	m.grow(t)
}

func (m *model) calculate(t int, word string) {
	b := m.pop(t)
	a := m.pop(t)
	n := 0
	switch {
	case word == "add":
		n = a + b
	case word == "sub":
		n = a - b
	case word == "mul":
		n = a * b
	case word == "less" && a < b, word == "most" && a <= b, word == "equal" && a == b:
		n = 1
	}
	m.push(t, n)
}

func (m *model) access(kind, obj int, change bool) {
	m.acc[[2]int{kind, obj}] = m.acc[[2]int{kind, obj}] || change
}

func (m *model) arrive(t int) {
	word, a, _, _ := m.at(t)
	switch {
	case word == "sleep":
		m.s.Threads[t].Wake = m.s.Clock + a
		m.access(machine.OnClock, 0, false)
	case word == "acquire":
		m.access(machine.OnLock, a, false)
		if m.s.Owners[a] != -1 {
			m.s.Cost.Waits++
		}
	case word == "recv" && m.c.Chans[a].N == 0:
		m.access(machine.OnChan, a, true)
	}
}

// objects has the kind of the object A of an instruction, and whether it is changed.
var objects = map[string]struct {
	kind   int
	change bool
}{"get": {machine.OnVar, false}, "put": {machine.OnVar, true}, "send": {machine.OnChan, true}, "recv": {machine.OnChan, true}, "acquire": {machine.OnLock, true}, "release": {machine.OnLock, true}, "read": {machine.OnFile, false}, "write": {machine.OnFile, true}}

// step makes the step of a thread.
func (m *model) step(t, k int) {
	word, a, _, _ := m.at(t)
	if o, ok := objects[word]; ok {
		m.access(o.kind, a, o.change)
	}
	if isIn(word, "now sleep") {
		m.access(machine.OnClock, 0, word == "now" && k == 1)
	}
	if isIn(word, "go end back") {
		m.access(machine.OnThreads, 0, true)
	}
	m.access(machine.OnThreads, 1+t, true)
	var others []int
	if !m.perform(t, func() { others = m.effect(t, k) }) {
		return
	}
	m.s.Clock++
	m.s.Cost.Steps++
	m.s.Fuel--
	for _, u := range others {
		m.access(machine.OnThreads, 1+u, true)
	}
	if !isIn(word, "end back") {
		others = append(others, t)
	}
	for _, u := range others {
		if m.s.Outcome == -1 {
			m.silently(u)
		}
	}
}

// effect does what an instruction does, and returns the other thread that it moves.
func (m *model) effect(t, k int) []int {
	word, a, b, _ := m.at(t)
	f := lastFrame(&m.s, t)
	switch word {
	case "get":
		m.push(t, m.s.Vars[a])
	case "put":
		m.s.Vars[a] = m.pop(t)
	case "go":
		return m.start(t, a)
	case "send":
		return m.send(t, a, k)
	case "recv":
		f.Locals[b] = m.s.Queues[a][0]
		m.s.Queues[a] = slices.Delete(m.s.Queues[a], 0, 1)
	case "acquire":
		m.s.Owners[a] = t
	case "release":
		if m.s.Owners[a] != t {
			panic(cannot{})
		}
		m.s.Owners[a] = -1
	case "draw":
		f.Locals[b] = k
	case "now":
		m.s.Clock += k
		f.Locals[a] = m.s.Clock
	case "write":
		if n := m.pop(t); k == 0 {
			m.s.Files[a] = n
		}
	case "read":
		f.Locals[b] = m.s.Files[a]
	case "end", "back":
		m.s.Threads[t] = machine.Thread{Ended: true}
		if t == 0 {
			m.end(api.Passed, "", 0)
		}
		return nil
	}
	m.grow(t)
	return nil
}

func (m *model) start(t, procedure int) []int {
	n := 0
	for u := range m.s.Threads {
		if m.alive(u) {
			n++
		}
	}
	if n >= 5 {
		panic(cannot{})
	}
	m.grow(t)
	m.s.Threads = append(m.s.Threads, machine.Thread{})
	m.call(len(m.s.Threads)-1, procedure)
	return []int{len(m.s.Threads) - 1}
}

func (m *model) send(t, channel, k int) []int {
	n := m.pop(t)
	if m.c.Chans[channel].N != 0 {
		m.s.Queues[channel] = append(m.s.Queues[channel], n)
		m.grow(t)
		return nil
	}
	u := m.waiting(t, channel)[k]
	_, _, b, _ := m.at(u)
	lastFrame(&m.s, u).Locals[b] = n
	m.grow(u)
	m.grow(t)
	return []int{u}
}

func (m *model) settle() {
	if m.s.Outcome != -1 {
		return
	}
	where, site := m.place(0)
	if m.s.Fuel == 0 {
		m.end(api.Late, where, site)
		return
	}
	if len(m.enabled()) != 0 {
		return
	}
	var wakes []int
	for t, x := range m.s.Threads {
		if !m.alive(t) {
			continue
		}
		if word, _, _, _ := m.at(t); word == "sleep" {
			wakes = append(wakes, x.Wake)
		}
	}
	if len(wakes) == 0 {
		m.end(api.Stuck, where, site)
		return
	}
	m.s.Clock = slices.Min(wakes)
}

// accesses returns them in their order.
func (m *model) accesses() []machine.Access {
	var l []machine.Access
	for x, change := range m.acc {
		l = append(l, machine.Access{Kind: x[0], Obj: x[1], Change: change})
	}
	slices.SortFunc(l, func(a, b machine.Access) int { return cmp.Compare(a.Kind<<20+a.Obj, b.Kind<<20+b.Obj) })
	return l
}

func refStart(c code.Code, e api.Env, left []api.Cell) machine.State {
	values := map[string]int{}
	for _, x := range slices.Backward(left) {
		values[x.Name] = x.N
	}
	s := machine.State{Threads: []machine.Thread{{}}, Queues: make([][]int, len(c.Chans)), Fuel: 64, Picked: -1, Outcome: -1}
	for _, x := range c.Vars {
		n, ok := values[x.Name]
		if !ok {
			n = x.N
		}
		s.Vars = append(s.Vars, n)
	}
	for range c.Locks {
		s.Owners = append(s.Owners, -1)
	}
	for _, name := range c.Files {
		s.Files = append(s.Files, values[name])
	}
	m := newModel(c, e, s)
	m.call(0, len(c.Names)-1)
	m.silently(0)
	m.settle()
	return m.s
}

func refDo(c code.Code, e api.Env, s machine.State, k int) (machine.State, []machine.Access) {
	m := newModel(c, e, s)
	p := m.point()
	if p.Thread == -1 {
		m.s.Picked = m.enabled()[k]
		return m.s, nil
	}
	m.s.Picked = -1
	m.step(p.Thread, k)
	m.settle()
	return m.s, m.accesses()
}

func refLeft(c code.Code, s machine.State) []api.Cell {
	var l []api.Cell
	for i, x := range c.Vars {
		l = append(l, api.Cell{Name: x.Name + "\x00v", N: s.Vars[i]})
	}
	for i, name := range c.Files {
		l = append(l, api.Cell{Name: name + "\x00w", N: s.Files[i]})
	}
	slices.SortFunc(l, func(a, b api.Cell) int { return strings.Compare(a.Name, b.Name) })
	for i := range l {
		l[i].Name = l[i].Name[:len(l[i].Name)-2]
	}
	return l
}

// refValid reports whether a state is valid for a code that is valid.
func refValid(c code.Code, s machine.State) bool {
	in := func(n, low, high int) bool { return n >= low && n <= high }
	ok := len(s.Vars) == len(c.Vars) && len(s.Queues) == len(c.Chans) && len(s.Owners) == len(c.Locks) && len(s.Files) == len(c.Files)
	ok = ok && in(len(s.Threads), 1, 65) && in(s.Clock, 0, 1048576) && in(s.Fuel, 0, 64) && in(s.Outcome, -1, 4)
	ok = ok && s.Cost.Steps >= 0 && s.Cost.Allocs >= 0 && s.Cost.Waits >= 0 && s.Site >= 0
	if !ok {
		return false
	}
	for i, q := range s.Queues {
		ok = ok && len(q) <= c.Chans[i].N
	}
	for _, o := range s.Owners {
		ok = ok && in(o, -1, len(s.Threads)-1)
	}
	n := 0
	for _, t := range s.Threads {
		ok = ok && refValidThread(c, t)
		if !t.Ended {
			n++
		}
	}
	if !ok || n > 5 {
		return false
	}
	if s.Outcome != -1 {
		return s.Picked == -1
	}
	m := newModel(c, api.Env{}, s)
	for t := range s.Threads {
		if m.alive(t) && !m.visible(t) {
			return false
		}
	}
	l := m.enabled()
	return s.Where == "" && s.Site == 0 && s.Fuel != 0 && m.alive(0) && len(l) != 0 && (s.Picked == -1 || slices.Contains(l, s.Picked))
}

// refValidThread looks at all of a thread but for the kind of the instruction at which it stands.
func refValidThread(c code.Code, t machine.Thread) bool {
	if t.Ended {
		return len(t.Frames)+len(t.Stack) == 0 && t.Wake == 0
	}
	if len(t.Frames) == 0 || len(t.Frames) > 8 || len(t.Stack) > 16 || t.Wake < 0 || t.Wake > 1048576 {
		return false
	}
	for _, f := range t.Frames {
		if f.PC < 0 || f.PC >= len(c.Instrs) || len(f.Locals) != c.Locals[procedureAt(c, f.PC)] {
			return false
		}
	}
	return true
}
