package machine_test

import (
	"fmt"
	"maps"
	"slices"
	"strconv"
	"strings"

	"culprit/api"
	"culprit/code"
	"culprit/machine"
)

// words has the words of the operations, in their order.
var words = strings.Fields("push load store machine add sub mul less most equal jump zero call back check alloc get put go send recv acquire release draw now sleep write read end")

// A program is a code with the indexes of the instructions that have labels.
type program struct {
	code.Code
	at map[string]int
}

// assemble returns the code of some lines: those that say what there is ("vars x=1 y", "chans c=0", "locks l", "files f"), for each procedure one with its name and the number of its locals ("p 2:"), and its instructions, in which names stand for numbers. A word with "@" ahead of an instruction is its label. The code has to be valid.
func assemble(text string) program {
	var p program
	p.at = map[string]int{}
	var lines [][]string
	for _, line := range strings.FieldsFunc(text, func(r rune) bool { return r == '\n' || r == ';' }) {
		f := strings.Fields(line)
		switch {
		case len(f) == 0:
		case f[0] == "vars":
			p.Vars = cellsOf(f[1:])
		case f[0] == "chans":
			p.Chans = cellsOf(f[1:])
		case f[0] == "locks":
			p.Locks = f[1:]
		case f[0] == "files":
			p.Files = f[1:]
		case strings.HasSuffix(line, ":"):
			p.Names = append(p.Names, f[0])
			p.Begins = append(p.Begins, len(lines))
			p.Locals = append(p.Locals, number(strings.TrimSuffix(f[1], ":")))
		default:
			for f[0][0] == '@' {
				p.at[f[0]] = len(lines)
				f = f[1:]
			}
			lines = append(lines, f)
		}
	}
	for _, f := range lines {
		p.Instrs = append(p.Instrs, p.instr(f))
	}
	if n, e := code.Valid(p.Code); e != api.OK {
		panic("not a valid code, from " + strconv.Itoa(n) + " on: " + text)
	}
	return p
}

func (p program) instr(f []string) api.Instr {
	x := api.Instr{Op: slices.Index(words, f[0])}
	for i, field := range []*int{&x.A, &x.B} {
		if i+1 < len(f) {
			*field = p.number(f[i+1])
		}
	}
	return x
}

// number returns the number for which a word of an instruction stands; all names are different.
func (p program) number(word string) int {
	if at, ok := p.at[word]; ok {
		return at
	}
	cell := func(c api.Cell) bool { return c.Name == word }
	for _, i := range []int{slices.IndexFunc(p.Vars, cell), slices.IndexFunc(p.Chans, cell), slices.Index(p.Locks, word), slices.Index(p.Files, word), slices.Index(p.Names, word)} {
		if i >= 0 {
			return i
		}
	}
	return number(word)
}

func number(word string) int {
	n, e := strconv.Atoi(word)
	if e != nil {
		panic("no number: " + word)
	}
	return n
}

// cellsOf returns the cells of words such as "x=1"; without a number it is 0.
func cellsOf(l []string) []api.Cell {
	var cells []api.Cell
	for _, word := range l {
		name, n, is := strings.Cut(word, "=")
		cells = append(cells, api.Cell{Name: name})
		if is {
			cells[len(cells)-1].N = number(n)
		}
	}
	return cells
}

// thread returns a thread that stands at a label, with locals 0, and some values on its stack; labels ahead of the last one are those of outer frames ("@a @b").
func (p program) thread(labels string, stack ...int) machine.Thread {
	t := machine.Thread{Stack: stack}
	for _, l := range strings.Fields(labels) {
		at, known := p.at[l]
		if !known {
			panic("no label " + l)
		}
		t.Frames = append(t.Frames, machine.Frame{PC: at, Locals: make([]int, p.Locals[procedureAt(p.Code, at)])})
	}
	return t
}

// state returns a state of a run that goes on, with these threads and the variables as they are first.
func (p program) state(threads ...machine.Thread) machine.State {
	s := machine.State{Threads: threads, Fuel: 64, Picked: -1, Outcome: -1, Queues: make([][]int, len(p.Chans)), Files: make([]int, len(p.Files))}
	for _, x := range p.Vars {
		s.Vars = append(s.Vars, x.N)
	}
	for range p.Locks {
		s.Owners = append(s.Owners, -1)
	}
	return s
}

// states returns a state whose threads stand at the labels between commas; those without one have ended.
func (p program) states(labels string) machine.State {
	var threads []machine.Thread
	for _, l := range strings.Split(labels, ",") {
		if l == "" {
			threads = append(threads, machine.Thread{Ended: true})
		} else {
			threads = append(threads, p.thread(l))
		}
	}
	return p.state(threads...)
}

// procedureAt returns the number of the procedure of an instruction.
func procedureAt(c code.Code, at int) int {
	p := 0
	for p+1 < len(c.Begins) && c.Begins[p+1] <= at {
		p++
	}
	return p
}

// copyState returns a state that shares no memory with another one.
func copyState(s machine.State) machine.State {
	copyInts := func(l []int) []int { return append([]int{}, l...) }
	threads := []machine.Thread{}
	for _, t := range s.Threads {
		frames := []machine.Frame{}
		for _, f := range t.Frames {
			frames = append(frames, machine.Frame{PC: f.PC, Locals: copyInts(f.Locals)})
		}
		threads = append(threads, machine.Thread{Frames: frames, Stack: copyInts(t.Stack), Wake: t.Wake, Ended: t.Ended})
	}
	queues := [][]int{}
	for _, q := range s.Queues {
		queues = append(queues, copyInts(q))
	}
	s.Threads, s.Queues = threads, queues
	s.Vars, s.Owners, s.Files = copyInts(s.Vars), copyInts(s.Owners), copyInts(s.Files)
	return s
}

func copyCode(c code.Code) code.Code {
	return code.Code{Instrs: slices.Clone(c.Instrs), Begins: slices.Clone(c.Begins), Locals: slices.Clone(c.Locals), Vars: slices.Clone(c.Vars), Chans: slices.Clone(c.Chans), Locks: slices.Clone(c.Locks), Files: slices.Clone(c.Files), Names: slices.Clone(c.Names)}
}

// show returns all fields of a state, lists that are nil like empty ones. It tells apart all states that differ.
func show(s machine.State) string {
	where := s.Where
	s.Where = ""
	return fmt.Sprintf("%+v %q", s, where)
}

var kindsOfObjects = map[string]int{"var": machine.OnVar, "chan": machine.OnChan, "lock": machine.OnLock, "file": machine.OnFile, "clock": machine.OnClock, "threads": machine.OnThreads}

// showAccesses returns accesses as words, such as "var0 lock1!", with "!" for a change.
func showAccesses(l []machine.Access) string {
	var out []string
	for _, x := range l {
		s := "?"
		for _, word := range slices.Sorted(maps.Keys(kindsOfObjects)) {
			if kindsOfObjects[word] == x.Kind {
				s = word
			}
		}
		s += strconv.Itoa(x.Obj)
		if x.Change {
			s += "!"
		}
		out = append(out, s)
	}
	return strings.Join(out, " ")
}
