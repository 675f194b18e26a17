package typing

import (
	"slices"

	"culprit/api"
	"culprit/source"
)

// A program has the trees of definitions by their names.
type program map[string]api.Node

// build returns the program of definitions, and what Check says of them.
func build(l []api.Def) (program, int, api.Errno) {
	if len(l) > api.MaxDefs {
		return nil, 0, api.ErrLimit
	}
	p := program{}
	// An error of one stage hides those of the next, wherever they are.
	for _, stage := range []func(api.Def) api.Errno{p.add, p.checkUses, p.checkCalls} {
		for i, d := range l {
			if e := stage(d); e != api.OK {
				return nil, i, e
			}
		}
	}
	return p, len(l), api.OK
}

// add puts a definition into the program if it can be there.
func (p program) add(d api.Def) api.Errno {
	tree, _, e := source.Parse(d.Text)
	if e != api.OK {
		return e
	}
	if tree.Text != d.Name {
		return api.ErrName
	}
	if _, taken := p[d.Name]; taken || repeatsField(tree) {
		return api.ErrTwice
	}
	p[d.Name] = tree
	return api.OK
}

// checkUses examines what a definition uses in three rounds, as an error of an
// earlier round comes first, also if it stands further behind in the text.
func (p program) checkUses(d api.Def) api.Errno {
	tree := p[d.Name]
	for u := range uses(tree) {
		if _, known := p[u.name]; !known {
			return api.ErrNone
		}
	}
	for u := range uses(tree) {
		if p[u.name].Kind != u.kind {
			return api.ErrType
		}
	}
	for u := range uses(tree) {
		if u.field != "" && !hasField(p[u.name], u.field) {
			return api.ErrNone
		}
	}
	return api.OK
}

func (p program) checkCalls(d api.Def) api.Errno {
	if p.reached(d.Name, use.isCall)[d.Name] {
		return api.ErrCycle
	}
	return api.OK
}

// reached returns the names to which those uses lead that are followed. The
// name at which it begins is among them only if they lead back to it.
func (p program) reached(name string, followed func(use) bool) map[string]bool {
	found := map[string]bool{}
	var goOn func(name string)
	goOn = func(name string) {
		for u := range uses(p[name]) {
			if followed(u) && !found[u.name] {
				found[u.name] = true
				goOn(u.name)
			}
		}
	}
	goOn(name)
	return found
}

// repeatsField reports whether two fields of a record have the same name.
func repeatsField(tree api.Node) bool {
	if tree.Kind != source.Rec {
		return false
	}
	seen := map[string]bool{}
	for _, item := range tree.Kids {
		if seen[item.Text] {
			return true
		}
		seen[item.Text] = true
	}
	return false
}

func hasField(record api.Node, field string) bool {
	return slices.ContainsFunc(record.Kids, func(item api.Node) bool { return item.Text == field })
}
