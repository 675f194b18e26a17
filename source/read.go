package source

import (
	"strconv"
	"strings"

	"culprit/api"
)

// A reader makes a tree of a text. After an error, no token is next, at the
// offset of the error.
type reader struct {
	s    string
	next token
	e    api.Errno
}

// read returns the tree of a text of any length and depth.
func read(s string) (api.Node, int, api.Errno) {
	r := reader{s: s, next: scan(s, 0)}
	n := r.definition()
	if r.next.at < len(s) {
		r.fail(api.ErrForm)
	}
	if r.e != api.OK {
		return api.Node{}, r.next.at, r.e
	}
	return n, 0, api.OK
}

func (r *reader) advance() {
	r.next = scan(r.s, r.next.at+len(r.next.text))
}

// fail says that the next token cannot stand there. What is being read then
// comes to its end without errors of its own, because no token is next.
func (r *reader) fail(e api.Errno) {
	if r.e == api.OK {
		r.e = e
	}
	r.next = token{at: r.next.at}
}

// skips reads a word or a sign if it is the next token.
func (r *reader) skips(text string) bool {
	if r.next.text != text {
		return false
	}
	r.advance()
	return true
}

func (r *reader) expect(text string) {
	if !r.skips(text) {
		r.fail(api.ErrForm)
	}
}

func (r *reader) definition() api.Node {
	kind := r.kindHere(Var, Test)
	if kind == none {
		r.fail(api.ErrForm)
		return api.Node{}
	}
	return r.node(kind)
}

// kindHere returns the kind, from first to last, whose nodes begin with the
// next token.
func (r *reader) kindHere(first, last int) int {
	t := r.next
	if t.class != wordToken || t.kind < first || t.kind > last {
		return none
	}
	return t.kind
}

// statementHere returns the kind of the statement that begins with the next
// token.
func (r *reader) statementHere() int {
	switch r.next.class {
	case localToken:
		return Let
	case nameToken:
		return Set
	}
	return r.kindHere(If, Alloc)
}

// node reads a node of a kind that is no operation.
func (r *reader) node(kind int) api.Node {
	n := api.Node{Kind: kind}
	x := shapes[kind]
	if x.word != "" {
		r.expect(x.word)
	}
	for i := range len(x.parts) {
		r.part(&n, x, i)
	}
	return n
}

// part reads one part of a shape.
func (r *reader) part(n *api.Node, x shape, i int) {
	switch x.parts[i] {
	case namePart:
		n.Text = r.name()
	case localPart:
		n.Text = r.local()
	case numeralPart:
		n.N = r.numeral(x)
	case numberPart:
		n.N = r.number(x)
	case exprKid:
		n.Kids = append(n.Kids, r.expression())
	case blockKid:
		n.Kids = append(n.Kids, r.node(Block))
	case localKid:
		n.Kids = append(n.Kids, r.node(Local))
	case placeKid:
		n.Kids = append(n.Kids, r.place())
	case elseKid:
		if r.skips(elseWord) {
			n.Kids = append(n.Kids, r.node(Block))
		}
	case itemKids:
		for r.next.class == nameToken {
			n.Kids = append(n.Kids, r.node(Item))
		}
	case stmtKids:
		for kind := r.statementHere(); kind != none; kind = r.statementHere() {
			n.Kids = append(n.Kids, r.node(kind))
		}
	default:
		r.expect(x.parts[i : i+1])
	}
}

func (r *reader) name() string { return r.text(nameToken) }

func (r *reader) local() string { return strings.TrimPrefix(r.text(localToken), "$") }

// text reads a token of a class.
func (r *reader) text(class int) string {
	t := r.next
	if t.class != class {
		r.fail(api.ErrForm)
		return ""
	}
	r.advance()
	return t.text
}

func (r *reader) numeral(x shape) int {
	if r.next.class != numeralToken {
		r.fail(api.ErrForm)
		return 0
	}
	// A numeral has so few digits that there is always a value.
	n, _ := strconv.Atoi(r.next.text)
	if n < x.low || n > x.high {
		r.fail(api.ErrRange)
		return 0
	}
	r.advance()
	return n
}

func (r *reader) number(x shape) int {
	if r.skips("-") {
		return -r.numeral(x)
	}
	return r.numeral(x)
}

func (r *reader) place() api.Node {
	n := api.Node{Kind: Name, Text: r.name()}
	if r.skips(".") {
		n.Kind = Field
		n.Text += "." + r.name()
	}
	return n
}

func (r *reader) expression() api.Node { return r.operations(comparing, r.sum) }

func (r *reader) sum() api.Node { return r.operations(adding, r.product) }

func (r *reader) product() api.Node { return r.operations(multiplying, r.factor) }

// operations reads operands with operations of one level between them. Only of
// comparisons there cannot be several.
func (r *reader) operations(level int, operand func() api.Node) api.Node {
	n := operand()
	for r.next.level == level {
		kind := r.next.kind
		r.advance()
		right := operand()
		n = api.Node{Kind: kind, Kids: []api.Node{n, right}}
		if level == comparing {
			break
		}
	}
	return n
}

func (r *reader) factor() api.Node {
	switch r.next.class {
	case numeralToken:
		return r.node(Num)
	case localToken:
		return r.node(Local)
	}
	if r.skips("(") {
		n := r.expression()
		r.expect(")")
		return n
	}
	if r.kindHere(Kind, Kind) == Kind {
		return r.node(Kind)
	}
	return r.place()
}
