package typing

import (
	"iter"
	"strings"

	"culprit/api"
	"culprit/source"
)

// A use tells which name is used, and the kind of a definition that fits it.
type use struct {
	name  string
	kind  int
	field string // of a record; empty for other kinds
	node  int    // the kind of the node that uses the name
}

// isCall reports whether the use is one that must not lead back: a thread that
// is started by Go has calls of its own.
func (u use) isCall() bool { return u.node == source.Call }

// uses yields what a tree uses, in the order of the text.
func uses(tree api.Node) iter.Seq[use] {
	return func(yield func(use) bool) {
		var visit func(n api.Node) bool
		visit = func(n api.Node) bool {
			if u, is := useOf(n); is && !yield(u) {
				return false
			}
			for _, kid := range n.Kids {
				if !visit(kid) {
					return false
				}
			}
			return true
		}
		visit(tree)
	}
}

// useOf returns what a node itself uses, without its kids.
func useOf(n api.Node) (use, bool) {
	u := use{name: n.Text, node: n.Kind}
	switch n.Kind {
	case source.Name:
		u.kind = source.Var
	case source.Field:
		u.kind = source.Rec
		u.name, u.field, _ = strings.Cut(n.Text, ".")
	case source.Go, source.Call:
		u.kind = source.Proc
	case source.Acquire, source.Release:
		u.kind = source.Lock
	case source.Send, source.Recv:
		u.kind = source.Chan
	case source.Write, source.Read:
		u.kind = source.File
	default:
		return use{}, false
	}
	return u, true
}
