package source

import (
	"strconv"

	"culprit/api"
)

// A writer makes the text of a tree. It stops where the tree turns out not to
// be valid, or has no end.
type writer struct {
	text   []byte
	depth  int // of the node that is being written
	failed bool
}

// write returns the text of a tree, and whether its depth and its length are
// those of a valid one. The trees it takes may be any ones: if no text has the
// tree, this text has another one, or none.
func write(n api.Node) (string, bool) {
	w := writer{}
	w.node(n)
	return string(w.text), !w.failed
}

// put appends a token, if there is room for it.
func (w *writer) put(text string) {
	last := len(w.text) - 1
	if last >= 0 && w.text[last] != '(' && text != ")" && text != ";" {
		w.text = append(w.text, ' ')
	}
	if len(text) > api.MaxSource-len(w.text) {
		w.failed = true
		return
	}
	w.text = append(w.text, text...)
}

func (w *writer) node(n api.Node) {
	if w.depth == api.MaxDepth || n.Kind < 0 || n.Kind >= Kinds {
		w.failed = true
	}
	if w.failed {
		return
	}
	w.depth++
	if x := operationOf(n.Kind); x.level > 0 {
		w.operation(x, n)
	} else {
		w.shape(n)
	}
	w.depth--
}

// operation writes two operands, in parentheses where they would not belong
// together without them. Of comparisons there cannot be several on one level.
func (w *writer) operation(x sign, n api.Node) {
	if len(n.Kids) != 2 {
		w.failed = true
		return
	}
	left := x.level
	if left == comparing {
		left++
	}
	w.operand(n.Kids[0], left)
	w.put(x.text)
	w.operand(n.Kids[1], x.level+1)
}

// operand writes an operand, in parentheses if it is an operation of a lower
// level than least.
func (w *writer) operand(n api.Node, least int) {
	x := operationOf(n.Kind)
	if x.level == 0 || x.level >= least {
		w.node(n)
		return
	}
	w.put("(")
	w.node(n)
	w.put(")")
}

// shape writes a node that is no operation.
func (w *writer) shape(n api.Node) {
	x := shapes[n.Kind]
	if x.word != "" {
		w.put(x.word)
	}
	kids := n.Kids
	for i := range len(x.parts) {
		kids = w.part(n, x.parts[i:i+1], kids)
	}
}

// part writes one part of a shape, and returns the kids that are left.
func (w *writer) part(n api.Node, part string, kids []api.Node) []api.Node {
	switch part[0] {
	case namePart:
		w.put(n.Text)
	case localPart:
		w.put("$" + n.Text)
	case numeralPart, numberPart:
		w.put(strconv.Itoa(n.N))
	case exprKid, blockKid, localKid, placeKid:
		return w.first(kids)
	case elseKid:
		if len(kids) > 0 {
			w.put(elseWord)
			return w.first(kids)
		}
	case itemKids, stmtKids:
		for len(kids) > 0 && !w.failed {
			kids = w.first(kids)
		}
	default:
		w.put(part)
	}
	return kids
}

// first writes the first one of some kids, and returns the others.
func (w *writer) first(kids []api.Node) []api.Node {
	if len(kids) == 0 {
		w.failed = true
		return nil
	}
	w.node(kids[0])
	return kids[1:]
}
