package code

import (
	"slices"
	"strings"

	"culprit/api"
	"culprit/source"
	"culprit/typing"
)

// opOf has the operation for each kind of node that stands for just one.
var opOf = []int{
	source.Go:      Go,
	source.Call:    Call,
	source.Send:    Send,
	source.Recv:    Recv,
	source.Acquire: Acquire,
	source.Release: Release,
	source.Sleep:   Sleep,
	source.Write:   Write,
	source.Read:    Read,
	source.Alloc:   Alloc,
	source.Less:    Less,
	source.Most:    Most,
	source.Equal:   Equal,
	source.Add:     Add,
	source.Sub:     Sub,
	source.Mul:     Mul,
}

// A compiler makes the code of the slice of a test.
type compiler struct {
	code Code
	// The numbers of all that the code lists, by their names: no two of these
	// are the same, whatever they name.
	numbers map[string]int
	// Of the procedure whose instructions are emitted:
	locals map[string]int
	checks int // how many have been emitted
}

// A jump has been emitted before it was known where it leads.
type jump struct {
	land func() // makes it lead to the next instruction that is emitted
}

// Compile returns the code of a test, with all that it rests on.
func Compile(l []api.Def, test string) (Code, api.Errno) {
	slice, e := typing.Slice(l, test)
	if e != api.OK {
		return Code{}, e
	}
	trees := treesOf(slice, test)
	if trees[len(trees)-1].Kind != source.Test {
		return Code{}, api.ErrType
	}
	c := compiler{numbers: map[string]int{}}
	for _, tree := range trees {
		c.list(tree)
	}
	c.enumerate()
	for _, tree := range trees {
		if isProcedure(tree) {
			c.procedure(tree)
		}
	}
	if len(c.code.Instrs) > api.MaxInstrs {
		return Code{}, api.ErrLimit
	}
	return c.code, api.OK
}

// treesOf returns the trees of the definitions of a slice, that of the test
// last.
func treesOf(slice []api.Def, test string) []api.Node {
	var trees []api.Node
	var last api.Node
	for _, d := range slice {
		// A text in a slice can be read.
		tree, _, _ := source.Parse(d.Text)
		if d.Name == test {
			last = tree
		} else {
			trees = append(trees, tree)
		}
	}
	return append(trees, last)
}

func isProcedure(tree api.Node) bool { return tree.Kind == source.Proc || tree.Kind == source.Test }

// list puts a definition into the list to which it belongs.
func (c *compiler) list(tree api.Node) {
	switch tree.Kind {
	case source.Var:
		c.code.Vars = append(c.code.Vars, api.Cell{Name: tree.Text, N: tree.N})
	case source.Rec:
		for _, item := range tree.Kids {
			c.code.Vars = append(c.code.Vars, api.Cell{Name: tree.Text + "." + item.Text, N: item.N})
		}
	case source.Chan:
		c.code.Chans = append(c.code.Chans, api.Cell{Name: tree.Text, N: tree.N})
	case source.Lock:
		c.code.Locks = append(c.code.Locks, tree.Text)
	case source.File:
		c.code.Files = append(c.code.Files, tree.Text)
	case source.Proc, source.Test:
		c.code.Names = append(c.code.Names, tree.Text)
	}
}

// enumerate finds the numbers of all that is listed. Only the variables have to
// be sorted: the fields of a record stand in any order, the definitions of a
// slice in that of their names.
func (c *compiler) enumerate() {
	slices.SortFunc(c.code.Vars, func(a, b api.Cell) int { return strings.Compare(a.Name, b.Name) })
	for _, cells := range [][]api.Cell{c.code.Vars, c.code.Chans} {
		for i, x := range cells {
			c.numbers[x.Name] = i
		}
	}
	for _, names := range [][]string{c.code.Locks, c.code.Files, c.code.Names} {
		for i, name := range names {
			c.numbers[name] = i
		}
	}
}

func (c *compiler) emit(op, a, b int) {
	c.code.Instrs = append(c.code.Instrs, api.Instr{Op: op, A: a, B: b})
}

func (c *compiler) jump(op int) jump {
	at := len(c.code.Instrs)
	c.emit(op, 0, 0)
	return jump{land: func() { c.code.Instrs[at].A = len(c.code.Instrs) }}
}

func (c *compiler) procedure(tree api.Node) {
	c.locals, c.checks = localsOf(tree), 0
	c.code.Begins = append(c.code.Begins, len(c.code.Instrs))
	c.code.Locals = append(c.code.Locals, len(c.locals))
	for _, block := range tree.Kids {
		c.block(block)
	}
	if tree.Kind == source.Test {
		c.emit(End, 0, 0)
	} else {
		c.emit(Back, 0, 0)
	}
}

// localsOf returns the numbers of the locals of a procedure. They are found
// ahead of its instructions, because these have another order: the local of a
// Let is in the text ahead of its expression.
func localsOf(tree api.Node) map[string]int {
	locals := map[string]int{}
	var visit func(n api.Node)
	visit = func(n api.Node) {
		switch n.Kind {
		case source.Let, source.Draw, source.Now, source.Local:
			if _, known := locals[n.Text]; !known {
				locals[n.Text] = len(locals)
			}
		}
		for _, kid := range n.Kids {
			visit(kid)
		}
	}
	visit(tree)
	return locals
}

func (c *compiler) block(n api.Node) {
	for _, statement := range n.Kids {
		c.statement(statement)
	}
}

func (c *compiler) statement(n api.Node) {
	switch n.Kind {
	case source.Let:
		c.expression(n.Kids[0])
		c.emit(Store, c.locals[n.Text], 0)
	case source.Set:
		c.expression(n.Kids[1])
		c.emit(Put, c.numbers[n.Kids[0].Text], 0)
	case source.If:
		c.branch(n)
	case source.While:
		c.loop(n)
	case source.Send, source.Write:
		c.expression(n.Kids[0])
		c.emit(opOf[n.Kind], c.numbers[n.Text], 0)
	case source.Recv, source.Read:
		c.emit(opOf[n.Kind], c.numbers[n.Text], c.locals[n.Kids[0].Text])
	case source.Draw:
		c.emit(Draw, n.N, c.locals[n.Text])
	case source.Now:
		c.emit(Now, c.locals[n.Text], 0)
	case source.Sleep, source.Alloc:
		c.emit(opOf[n.Kind], n.N, 0)
	case source.Check:
		c.expression(n.Kids[0])
		c.emit(Check, c.checks, len(c.code.Begins)-1)
		c.checks++
	default: // Go, Call, Acquire and Release
		c.emit(opOf[n.Kind], c.numbers[n.Text], 0)
	}
}

func (c *compiler) branch(n api.Node) {
	c.expression(n.Kids[0])
	skip := c.jump(Zero)
	c.block(n.Kids[1])
	if len(n.Kids) > 2 {
		end := c.jump(Jump)
		skip.land()
		c.block(n.Kids[2])
		end.land()
	} else {
		skip.land()
	}
}

func (c *compiler) loop(n api.Node) {
	begin := len(c.code.Instrs)
	c.expression(n.Kids[0])
	leave := c.jump(Zero)
	c.block(n.Kids[1])
	c.emit(Jump, begin, 0)
	leave.land()
}

func (c *compiler) expression(n api.Node) {
	var value func(n api.Node)
	value = func(n api.Node) {
		for _, operand := range n.Kids {
			value(operand)
		}
		switch n.Kind {
		case source.Num:
			c.emit(Push, n.N, 0)
		case source.Local:
			c.emit(Load, c.locals[n.Text], 0)
		case source.Name, source.Field:
			c.emit(Get, c.numbers[n.Text], 0)
		case source.Kind:
			c.emit(Machine, 0, 0)
		default:
			c.emit(opOf[n.Kind], 0, 0)
		}
	}
	value(n)
}
